/- texts joined -/
import Derived.WalkKit
import Derived.ProofKit
import Derived.OpenShut
import Derived.Lib.SmallJoins
import Derived.Lib.Hide
import Derived.Deep.Slices
import Derived.OwnWalk
import Derived.Laws.AppendOwnNone
import Derived.Test.YtgghbgmeebihbaaChecked
import Derived.WalkLawsBesides
import Derived.Outline
import Derived.Sort.Walk0
import Derived.Laws.RangeAny
import Derived.Lib.DecodeN
import Derived.Deep.QuietTactic
import Derived.BigQuiet
import Derived.SliceStrings
import Derived.Lib.OthersKept
import Derived.Deep.DeepCutAuto
import Derived.Deep.RegionHeld3
import Derived.Laws.OwnMore
import Derived.Lib.SliceRun
import Derived.Deep.RegionWith
import Derived.Sort.Grow
import Derived.Deep.RegionLaw
import Derived.Deep.AppendLies
import Derived.Laws.AppendOwn
namespace Go.Proofs.Ytgghbgmeebihbaa
open Go.ChangeShapes Go.WideShapes Go.ChangeAt Go.RowKit
set_option linter.unusedVariables false
set_option maxRecDepth 20000
theorem ret_int {k : IntKind} {a b : Int} (h : a = b) : Ending.returned (.int k a) = .returned (.int k b) := by rw [h]
theorem ret_bool {a b : Bool} (h : a = b) : Ending.returned (.bool a) = .returned (.bool b) := by rw [h]
theorem below_one (w : World) (o : Obj) : Below w.heap.size w (w.alloc o) := (Below.refl _ _).alloc (Nat.le_refl _) o
theorem below_drewN (w : World) (n : Nat) : Below w.heap.size w (w.drewN n) := Joins.below_draws _ _ _
/-- The slice at a of n elements of the kind k holds the numbers zs. (Of a slice of no elements nothing is said of its address.) -/
def HoldsI (k : IntKind) (w : World) (a : Option Addr) (n : Nat) (zs : List Int) : Prop :=
  zs.length = n ∧ (0 < n → ∃ b o, a = some ⟨b, o, none⟩ ∧ ∀ i, i < n → w.cell? ⟨b, o + i, none⟩ = some (.int k (zs.getD i 0)))
theorem HoldsI.len {k : IntKind} {w : World} {a : Option Addr} {n : Nat} {zs : List Int} (h : HoldsI k w a n zs) : zs.length = n := h.1
theorem HoldsI.at {k : IntKind} {w : World} {a : Option Addr} {n : Nat} {zs : List Int} (h : HoldsI k w a n zs) (h0 : 0 < n) : ∃ b o, a = some ⟨b, o, none⟩ ∧ ∀ i, i < n → w.cell? ⟨b, o + i, none⟩ = some (.int k (zs.getD i 0)) := h.2 h0
theorem lt_of_cell {w : World} {b o : Nat} {v : Value} (h : w.cell? ⟨b, o, none⟩ = some v) : b < w.heap.size := by
  rcases Nat.lt_or_ge b w.heap.size with h' | h'
  · exact h'
  · simp [World.cell?, Array.getElem?_eq_none h'] at h
theorem HoldsI.nil (k : IntKind) (w : World) (a : Option Addr) : HoldsI k w a 0 [] := ⟨rfl, fun h => absurd h (by omega)⟩
theorem HoldsI.below {k : IntKind} {w w' : World} {a : Option Addr} {n : Nat} {zs : List Int} (h : HoldsI k w a n zs) (hb : Below w.heap.size w w') : HoldsI k w' a n zs := by
  refine ⟨h.1, fun h0 => ?_⟩
  obtain ⟨b, o, ha, hc⟩ := h.2 h0
  refine ⟨b, o, ha, fun i hi => ?_⟩
  rw [hb.cell (p := ⟨b, o + i, none⟩) (lt_of_cell (hc i hi))]
  exact hc i hi
theorem take_succ_getD {α : Type} (l : List α) (d : α) (k : Nat) (h : k < l.length) : l.take (k + 1) = l.take k ++ [l.getD k d] := by
  rw [List.take_succ_eq_append_getElem h]; simp [List.getD_eq_getElem?_getD, h]
theorem take_ne_of_getD {α : Type} {l m : List α} (d : α) (k : Nat) (h : l.getD k d ≠ m.getD k d) : l ≠ m := fun e => h (by rw [e])
theorem take_eq_all {α : Type} {l m : List α} {n : Nat} (h : l.take n = m.take n) (h1 : l.length = n) (h2 : m.length = n) : l = m := by
  rw [← List.take_of_length_le (Nat.le_of_eq h1), ← List.take_of_length_le (Nat.le_of_eq h2)]; exact h
end Go.Proofs.Ytgghbgmeebihbaa
namespace Go.Proofs.Ytgghbgmeebihbaa
open Go.ChangeShapes Go.WideShapes Go.ChangeAt Go.RowKit Go.Deep
set_option linter.unusedVariables false
set_option maxRecDepth 20000
theorem list3 {α : Type} {l : List α} (h : l.length = 3) : ∃ a b c, l = [a, b, c] := by
  match l, h with
  | [a, b, c], _ => exact ⟨a, b, c, rfl⟩
/-- the cells of a struct whose fields lie one behind the other, a cell each -/
theorem struct_cells {H : Type} {enc : TypeId × Value → H} {P : Program} {w : World} {base : Nat} {spare : Nat → Bool} {held : Bool} {fuel : Nat} {t : TypeId} {fs : Array Field} {cs : List Value} {x : DataW H × List MemPlace}
    (hs : P.underlying t = some (.struct fs)) (h : DataW.trod enc P w base spare held fuel t cs = some x) :
    cs.length = P.cellsOf t ∧ ∃ n, ∀ (i : Nat) (f : Field), fs[i]? = some f → ∃ y, DataW.trod enc P w base spare held n f.type ((cs.drop f.offset).take (P.cellsOf f.type)) = some y := by
  obtain ⟨xs, n, _, _, hl, hlen, hx⟩ := DataW.trod_struct hs h
  refine ⟨hl, n, fun i f hi => ?_⟩
  have h1 := hx i f hi
  have hlt : i < xs.length := by
    rw [hlen]
    rcases Nat.lt_or_ge i fs.size with h' | h'
    · exact h'
    · rw [Array.getElem?_eq_none h'] at hi; cases hi
  rw [List.getElem?_eq_getElem hlt] at h1
  exact ⟨_, h1⟩
end Go.Proofs.Ytgghbgmeebihbaa
namespace Go.Proofs.Ytgghbgmeebihbaa
open Go.ChangeShapes Go.WideShapes Go.ChangeAt Go.RowKit
set_option linter.unusedVariables false
set_option maxRecDepth 20000
/-- The slice at a of n elements, of one cell each, holds the values xs. -/
def HoldsV (w : World) (a : Option Addr) (n : Nat) (xs : List Value) : Prop :=
  xs.length = n ∧ (0 < n → ∃ b o, a = some ⟨b, o, none⟩ ∧ ∀ i, i < n → w.cell? ⟨b, o + i, none⟩ = some (xs.getD i undef))
theorem HoldsV.below {w w' : World} {a : Option Addr} {n : Nat} {xs : List Value} (h : HoldsV w a n xs) (hb : Below w.heap.size w w') : HoldsV w' a n xs := by
  refine ⟨h.1, fun h0 => ?_⟩
  obtain ⟨b, o, ha, hc⟩ := h.2 h0
  refine ⟨b, o, ha, fun i hi => ?_⟩
  rw [hb.cell (p := ⟨b, o + i, none⟩) (lt_of_cell (hc i hi))]
  exact hc i hi
theorem getD_map_int (k : IntKind) (zs : List Int) (i : Nat) (hi : i < zs.length) : (zs.map (Value.int k)).getD i undef = .int k (zs.getD i 0) := by
  simp [List.getD_eq_getElem?_getD, hi]
theorem below_grown {w w' : World} {row : Option Nat} (hg : w.grownBy w' row) (hr : ∀ k, row = some k → w.heap.size ≤ k) : Below w.heap.size w w' := (Below.refl _ _).grown hg (Nat.le_refl _) hr
/-- what is owned stays so where what was there stays -/
theorem owns_below {w w' : World} {base : Nat} {e : TypeId} {size : Nat} {v : Value} {n : Nat} {xs : List Value} (h : w.ownsRow base e size v n xs) (hb : Below w.heap.size w w') : w'.ownsRow base e size v n xs := by
  refine ⟨h.1, ?_⟩
  rcases h.2 with h0 | ⟨g, cap, cur, hv, hg, hh, r⟩
  · exact Or.inl h0
  · exact Or.inr ⟨g, cap, cur, hv, hg, by rw [hb.block g (Array.getElem?_eq_some_iff.1 hh).1]; exact hh, r⟩
theorem owns_none {w : World} {base : Nat} {e : TypeId} {size : Nat} {a : Option Addr} {n c : Nat} {xs : List Value} (h : w.ownsRow base e size (.slice a n c) n xs) : (a = none → n = 0 ∧ c = 0) ∧ n ≤ c := by
  rcases h.2 with ⟨hv, hn⟩ | ⟨g, cap, cur, hv, _, _, hc, _⟩
  · simp only [Value.slice.injEq] at hv
    obtain ⟨_, rfl, rfl⟩ := hv
    exact ⟨fun _ => ⟨rfl, rfl⟩, Nat.le_refl _⟩
  · simp only [Value.slice.injEq] at hv
    obtain ⟨rfl, _, rfl⟩ := hv
    exact ⟨(fun h => by cases h), hc⟩
/-- What is owned reads so. -/
theorem owns_holds {w : World} {base : Nat} {e : TypeId} {a : Option Addr} {n c : Nat} {xs : List Value} (h : w.ownsRow base e 1 (.slice a n c) n xs) : HoldsV w a n xs := by
  have hl : xs.length = n := by simpa using h.1
  refine ⟨hl, fun h0 => ?_⟩
  rcases h.2 with ⟨_, h1⟩ | ⟨g, cap, cur, hv, _, hh, hc, _, hs, hx⟩
  · omega
  · simp only [Value.slice.injEq] at hv
    obtain ⟨rfl, _, rfl⟩ := hv
    refine ⟨g, 0, rfl, fun i hi => ?_⟩
    rw [Nat.zero_add, Joins.cell_of_block hh]
    rw [Nat.mul_one] at hx
    rw [List.getD_eq_getElem?_getD, ← hx, List.getElem?_take, if_pos hi]
    have hlt : i < cur.size := by omega
    simp [hlt]
/-- one new cell, to be appended -/
theorem one_new (w : World) (v : Value) (e : TypeId) (fr : Nat × Nat) : ∀ ad, (some ⟨w.heap.size, 0, none⟩ : Option Addr) = some ad → ∀ j u, [v][j]? = some u → (w.alloc (.cells #[v] e fr)).cell? (ad.add j) = some u := by
  intro ad ha j u hj
  obtain rfl := Option.some.inj ha
  match j, hj with
  | 0, hj =>
    simp at hj; subst hj
    rw [add_plain, World.cell?_alloc_mark]; rfl
theorem one_int (k : IntKind) (x : Int) : ∀ u ∈ [Value.int k x], u.oneCell' = true := by simp [Value.oneCell']
theorem some_none {p : Prop} (a : Addr) : (some a = none) → p := fun h => by cases h
/-- 'append(v, x...)', v nil or the call's own, x whatever slice (nil too): the value is a slice of the call's own. -/
theorem wpList_append_any {P : Program} {w : World} {ops : Array Oper} {rest : List Oper} {o : Oper} {a : Act} {Q : Exit → Act → World → Prop} (hgd : o.guard = none) (s x : Operand) (t : TypeId)
    (ho : o.op = .call { callee := .builtin .append, args := #[s, x], argTypes := #[t, t] })
    (base : Nat) (e : TypeId) (i : TypeInfo) (z : Value) (size bytes : Nat) (ht : P.underlying t = some (.slice e)) (hi : P.info? e = some i) (hz : i.zero = some z)
    (hsize : i.size = size) (hby : i.bytes = bytes) (hzs : z.cells.size = size) (hsz : 0 < size)
    (v : Value) (n : Nat) (xs : List Value) (hs : a.eval s = v) (hown : w.ownsRow base e size v n xs)
    (ao : Option Addr) (m c : Nat) (news : List Value) (hx : a.eval x = .slice ao m c) (hnone : ao = none → m = 0 ∧ c = 0) (hl : news.length = m * size)
    (hnews : ∀ ad, ao = some ad → ∀ j u, news[j]? = some u → w.cell? (ad.add j) = some u) (h1 : ∀ u ∈ news, u.oneCell' = true)
    (h63 : n + m ≤ maxLen) (hbytes : (n + m) * bytes ≤ 140737488355328) (hbase : base ≤ w.heap.size)
    (h : ∀ a' c' w', w'.ownsRow base e size (.slice a' (n + m) c') (n + m) (xs ++ news) → Below base w w' → (a' = none → n + m = 0 ∧ c' = 0) → wpList P ops Q rest (a.put o.dst (.slice a' (n + m) c')) w') : wpList P ops Q (o :: rest) a w := by
  have fin : ∀ v' w', w'.ownsRow base e size v' (n + m) (xs ++ news) → Below base w w' → wpList P ops Q rest (a.put o.dst v') w' := by
    intro v' w' ho' hb'
    rcases Joins.ownsRow_forms ho' with ⟨rfl, h0⟩ | ⟨g, cap, rfl⟩
    · have := h none 0 w' (by rw [h0] at ho' ⊢; exact ho') hb' (fun _ => ⟨h0, rfl⟩)
      rw [h0] at this
      exact this
    · exact h _ _ w' ho' hb' (fun h => by cases h)
  cases ao with
  | some ad =>
    refine wpList_append_own w hgd s x t ho base e i z size bytes ht hi hz hsize hby hzs hsz v n xs hs hown ad m c news hx hl (hnews ad rfl) h1 h63 hbytes hbase fun v' w' h2 h3 _ => ?_
    exact fin v' w' h2 ((Below.refl base w).grown h3 hbase fun k hk => (hown.lt k hk).1)
  | none =>
    obtain ⟨rfl, rfl⟩ := hnone rfl
    have hn : news = [] := List.eq_nil_of_length_eq_zero (by simpa using hl)
    subst hn
    exact wpList_append_own_none hgd s x t ho base e i size ht hi v n xs hs hown hx (fin v w (by simpa using hown) (Below.refl _ _))
end Go.Proofs.Ytgghbgmeebihbaa
namespace Go.Proofs.Ytgghbgmeebihbaa
open Go.ChangeShapes Go.WideShapes Go.ChangeAt Go.RowKit
open Go.ChangeMaps (open_string shut_string)
set_option linter.unusedVariables false
set_option maxRecDepth 20000
theorem open_ints_arg {H : Type} {enc : TypeId × Value → H} {P : Program} {W : World} {base : Nat} {t e : TypeId} {k : IntKind} {v : Value} {d : DataW H} {p : List MemPlace}
    (ht : P.underlying t = some (.slice e)) (he : P.underlying e = some (.int k)) (hc : P.cellsOf e = 1)
    (o : Value.okWide P W .any base t v) (h : DataW.Trod enc P W 0 (fun _ => true) true t v d p) :
    ∃ a n cap zs, v = .slice a n cap ∧ HoldsI k W a n zs ∧ (a = none → n = 0 ∧ cap = 0) ∧ n ≤ cap ∧ cap ≤ maxLen ∧ ∀ z ∈ zs, (Lit.int k z).wf = true := by
  obtain ⟨a, len, cap, rfl⟩ := okWide_slice ht o
  obtain ⟨fuel, hf⟩ := h
  rcases open_ints ht he hc hf with ⟨hcs, _⟩ | ⟨x, l, c, zs, hcs, _, hl, hm, hz, _, hcell, hwz⟩
  · simp [Value.cells] at hcs
    obtain ⟨rfl, rfl, rfl⟩ := hcs
    exact ⟨none, 0, 0, [], rfl, HoldsI.nil _ _ _, fun _ => ⟨rfl, rfl⟩, Nat.le_refl _, by unfold maxLen; omega, by simp⟩
  · simp [Value.cells] at hcs
    obtain ⟨rfl, rfl, rfl⟩ := hcs
    have hzc : zs.length = cap := by simpa using hz
    refine ⟨some x, len, cap, zs.take len, rfl, ⟨by simp; omega, fun h0 => ?_⟩, (fun h => by cases h), hl, hm, fun z hz => hwz z (List.mem_of_mem_take hz)⟩
    obtain ⟨b, off, rfl, hcc⟩ := ints_at hcell (by omega)
    refine ⟨b, off, rfl, fun i hi => ?_⟩
    rw [hcc i (by omega)]
    congr 2
    simp only [List.getD_eq_getElem?_getD, List.getElem?_take]
    rw [if_pos hi]
theorem u8_of_wf {z : Int} (h : (Lit.int .u8 z).wf = true) : 0 ≤ z ∧ z < 256 := by
  simp [Lit.wf, IntKind.min, IntKind.max, IntKind.signed, IntKind.bits] at h; omega
end Go.Proofs.Ytgghbgmeebihbaa
namespace Go.Proofs.Ytgghbgmeebihbaa
open Go.RowKit
set_option linter.unusedVariables false
set_option maxRecDepth 20000
/-- which list of bytes is ahead -/
def cmpL (x y : List UInt8) : Int := if Op.bytesLess x y = true then -1 else if (x == y) = true then 0 else 1
theorem less_irrefl : ∀ x : List UInt8, Op.bytesLess x x = false
  | [] => rfl
  | a :: x => by simp [Op.bytesLess, less_irrefl x]
theorem cmpL_same (x : List UInt8) : cmpL x x = 0 := by simp [cmpL, less_irrefl]
theorem cmpL_cons (p q : UInt8) (x y : List UInt8) : cmpL (p :: x) (q :: y) = if p.toNat < q.toNat then -1 else if q.toNat < p.toNat then 1 else cmpL x y := by
  rcases Nat.lt_trichotomy p.toNat q.toNat with h | h | h
  · have h' : p < q := h
    simp [cmpL, Op.bytesLess, h, h']
  · have e : p = q := UInt8.toNat_inj.1 h
    subst e
    simp [cmpL, Op.bytesLess]
  · have h1 : ¬ p < q := fun h' => absurd (show p.toNat < q.toNat from h') (by omega)
    have h2 : (p == q) = false := by simp; intro e; subst e; omega
    have h3 : ¬ p.toNat < q.toNat := by omega
    have h4 : p ≠ q := by intro e; subst e; omega
    simp [cmpL, Op.bytesLess, h, h1, h3, h4]
theorem cmpL_swap : ∀ x y : List UInt8, cmpL y x = - cmpL x y
  | [], [] => rfl
  | [], b :: y => by simp [cmpL, Op.bytesLess]
  | a :: x, [] => by simp [cmpL, Op.bytesLess]
  | a :: x, b :: y => by
    rw [cmpL_cons, cmpL_cons, cmpL_swap x y]
    split <;> split <;> (try omega) <;> simp_all <;> omega
def cmpS (a b : ByteArray) : Int := cmpL a.toList b.toList
theorem cmpL_bd (x y : List UInt8) : cmpL x y = -1 ∨ cmpL x y = 0 ∨ cmpL x y = 1 := by unfold cmpL; split; simp; split <;> simp
theorem isNaN_any (s : ByteArray) (w : World) : Calls Try.prog 71 #[.string s] w fun e w' => e = .returned (.bool false) ∧ w = w' := by
  go_enter Try.func71, Try.ntmps71
  go_wp2
  go_ret
  exact ⟨ret_bool (by simp), rfl⟩
theorem gcompare_any (a b : ByteArray) (w : World) : Calls Try.prog 63 #[.string a, .string b] w fun e w' => e = .returned (.int .i64 (cmpS a b)) ∧ w = w' := by
  unfold cmpS cmpL
  obtain ⟨p, hp⟩ : ∃ p, Op.bytesLess a.toList b.toList = p := ⟨_, rfl⟩
  obtain ⟨q, hq⟩ : ∃ q, (a.toList == b.toList) = q := ⟨_, rfl⟩
  rw [hp, hq]
  cases p <;> cases q
  all_goals
    go_enter Try.func63, Try.ntmps63
    go_wp2_with fail
    refine (isNaN_any a _).mono ?_
    rintro e w' ⟨rfl, rfl⟩
    go_wp2_with fail
    refine (isNaN_any b _).mono ?_
    rintro e w' ⟨rfl, rfl⟩
    go_wp2_with fail
    go_ret
    exact ⟨rfl, rfl⟩
theorem compare_any (a b : ByteArray) (w : World) : Calls Try.prog 53 #[.string a, .string b] w fun e w' => e = .returned (.int .i64 (cmpS a b)) ∧ w = w' := by
  go_enter Try.func53, Try.ntmps53
  go_wp2_with fail
  refine (gcompare_any a b _).mono ?_
  rintro e w' ⟨rfl, rfl⟩
  go_wp2_with fail
  go_ret
  exact ⟨rfl, rfl⟩
theorem bytes_lt (x y : List UInt8) : Op.bytesLess x y = decide (x < y) := Go.Proofs.bytesLess_eq x y
theorem cmpS_swap (a b : ByteArray) : cmpS b a = - cmpS a b := cmpL_swap _ _
theorem cmpS_same (a : ByteArray) : cmpS a a = 0 := cmpL_same _
theorem cmpS_bd (a b : ByteArray) : cmpS a b = -1 ∨ cmpS a b = 0 ∨ cmpS a b = 1 := cmpL_bd _ _
theorem toList_inj {a b : ByteArray} (h : a.toList = b.toList) : a = b := by
  rw [ByteArray.toList_eq, ByteArray.toList_eq] at h
  exact ByteArray.ext (Array.toList_inj.1 h)
theorem cmpS_zero {a b : ByteArray} : cmpS a b = 0 ↔ a = b := by
  constructor
  · intro h
    unfold cmpS cmpL at h
    split at h
    · omega
    · split at h
      · rename_i h2; exact toList_inj (by simpa using h2)
      · omega
  · rintro rfl; exact cmpS_same a
theorem cmpS_lt {a b : ByteArray} : cmpS a b < 0 ↔ a.toList < b.toList := by
  unfold cmpS cmpL
  rw [bytes_lt]
  constructor
  · intro h
    split at h
    · rename_i h2; simpa using h2
    · split at h <;> omega
  · intro h
    rw [if_pos (by simpa using h)]; omega
theorem cmpS_trans {a b c : ByteArray} (h : cmpS a b < 0) (k : cmpS b c < 0) : cmpS a c < 0 := by
  rw [cmpS_lt] at *
  exact List.lt_trans h k
end Go.Proofs.Ytgghbgmeebihbaa
namespace Go.Proofs.Ytgghbgmeebihbaa
/-- the runes from a place on, at most so many -/
def runesN (s : ByteArray) : Nat → Nat → List Nat
  | 0, _ => []
  | f + 1, pos => if pos < s.size then (Utf8.decode s pos).1 :: runesN s f (pos + (Utf8.decode s pos).2) else []
/-- the runes of a text, U+FFFD where there is none -/
def runesS (s : ByteArray) : List Nat := runesN s s.size 0
theorem runesN_end (s : ByteArray) (f pos : Nat) (h : ¬ pos < s.size) : runesN s f pos = [] := by
  cases f with
  | zero => rfl
  | succ f => rw [runesN, if_neg h]
theorem decode_width (s : ByteArray) (pos : Nat) (h : pos < s.size) : 1 ≤ (Utf8.decode s pos).2 := by
  by_cases ha : (s[pos]'h).toNat < 128
  · rw [decode_ascii s pos h ha]; exact Nat.le_refl _
  · exact (decode_high s pos h (by omega)).2
theorem runesN_step (s : ByteArray) (f pos : Nat) (h : pos < s.size) (hf : s.size ≤ pos + f) : ∃ g, f = g + 1 ∧ runesN s f pos = (Utf8.decode s pos).1 :: runesN s g (pos + (Utf8.decode s pos).2) ∧ s.size ≤ pos + (Utf8.decode s pos).2 + g := by
  cases f with
  | zero => omega
  | succ g => exact ⟨g, rfl, by rw [runesN, if_pos h], by have := decode_width s pos h; omega⟩
theorem runesN_le (s : ByteArray) (f : Nat) : ∀ pos, (runesN s f pos).length ≤ f := by
  induction f with
  | zero => intro pos; exact Nat.le_refl _
  | succ f ih =>
    intro pos
    rw [runesN]
    split
    · rw [List.length_cons]; have := ih (pos + (Utf8.decode s pos).2); omega
    · exact Nat.zero_le _
theorem runesS_le (s : ByteArray) : (runesS s).length ≤ s.size := runesN_le s s.size 0
/-- -1 if one of them is none -/
def lenS (s : ByteArray) : Int := if 65533 ∈ runesS s then -1 else ((runesS s).length : Int)
theorem lenS_bad {s : ByteArray} {P Q : List Nat} (h : runesS s = P ++ 65533 :: Q) : lenS s = -1 := by
  unfold lenS; rw [if_pos (by rw [h]; simp)]
theorem lenS_good {s : ByteArray} (h : ∀ r ∈ runesS s, r ≠ 65533) : lenS s = ((runesS s).length : Int) := by
  unfold lenS; rw [if_neg (fun h' => h _ h' rfl)]
theorem lenS_pos {s : ByteArray} (h : 0 ≤ lenS s) : (∀ r ∈ runesS s, r ≠ 65533) ∧ lenS s = ((runesS s).length : Int) := by
  by_cases hm : 65533 ∈ runesS s
  · unfold lenS at h; rw [if_pos hm] at h; omega
  · have hg : ∀ r ∈ runesS s, r ≠ 65533 := fun r hr e => hm (e ▸ hr)
    exact ⟨hg, lenS_good hg⟩
end Go.Proofs.Ytgghbgmeebihbaa
namespace Go.Proofs.Ytgghbgmeebihbaa
set_option linter.unusedVariables false
set_option maxRecDepth 20000
abbrev Tx := ByteArray
instance (t : Tx) (ts : List Tx) : Decidable (t ∈ ts) := decidable_of_iff (ts.any (fun x => decide (x = t)) = true) (by simp)
def wordP (t : Tx) : Prop := 1 ≤ lenS t ∧ lenS t ≤ 12
instance (t : Tx) : Decidable (wordP t) := by unfold wordP; infer_instance
def SortedS (xs : List Tx) : Prop := xs.Pairwise fun a b => cmpS a b < 0
theorem cmpS_irrefl (a : Tx) : ¬ cmpS a a < 0 := by rw [cmpS_same]; omega
/-- which lists are good -/
def adjP : List Tx → Prop
  | x :: y :: l => cmpS x y < 0 ∧ adjP (y :: l)
  | _ => True
theorem adj_sorted : ∀ {l : List Tx}, adjP l ↔ SortedS l
  | [] => by simp [adjP, SortedS]
  | [x] => by simp [adjP, SortedS]
  | x :: y :: l => by
    have ih := adj_sorted (l := y :: l)
    constructor
    · rintro ⟨h1, h2⟩
      have h3 := ih.1 h2
      refine List.pairwise_cons.2 ⟨fun z hz => ?_, h3⟩
      rcases List.mem_cons.1 hz with e | e
      · rw [e]; exact h1
      · exact cmpS_trans h1 ((List.pairwise_cons.1 h3).1 z e)
    · intro h
      obtain ⟨h1, h2⟩ := List.pairwise_cons.1 h
      exact ⟨h1 y (List.mem_cons_self ..), ih.2 h2⟩
theorem adj_iff (l : List Tx) : SortedS l ↔ ∀ i, i + 1 < l.length → cmpS (l.getD i ByteArray.empty) (l.getD (i + 1) ByteArray.empty) < 0 := by
  rw [← adj_sorted]
  induction l with
  | nil => simp [adjP]
  | cons x l ih =>
    cases l with
    | nil => simp [adjP]
    | cons y l =>
      constructor
      · rintro ⟨h1, h2⟩ i hi
        cases i with
        | zero => simpa using h1
        | succ i =>
          have := (ih.1 h2) i (by simpa using hi)
          simpa using this
      · intro h
        refine ⟨by simpa using h 0 (by simp), ih.2 fun i hi => ?_⟩
        have := h (i + 1) (by simpa using hi)
        simpa using this
instance (l : List Tx) : Decidable (SortedS l) := by unfold SortedS; infer_instance
def goodV (l : List Tx) : Int := if 60 < l.length then 3 else if ∃ t ∈ l, ¬ wordP t then 6 else if SortedS l then 0 else 7
theorem goodV_zero {l : List Tx} (h : goodV l = 0) : l.length ≤ 60 ∧ (∀ t ∈ l, wordP t) ∧ SortedS l := by
  unfold goodV at h
  split at h
  · omega
  · split at h
    · omega
    · split at h
      · rename_i h1 h2 h3
        exact ⟨by omega, fun t ht => Classical.byContradiction fun k => h2 ⟨t, ht, k⟩, h3⟩
      · omega
end Go.Proofs.Ytgghbgmeebihbaa
namespace Go.Proofs.Ytgghbgmeebihbaa
open Go.RowKit
set_option linter.unusedVariables false
set_option maxRecDepth 20000
def strsV (ts : List Tx) : List Value := ts.map Value.string
def HoldsT (w : World) (a : Option Addr) (n : Nat) (ts : List Tx) : Prop := HoldsV w a n (strsV ts)
theorem HoldsT.len {w : World} {a : Option Addr} {n : Nat} {ts : List Tx} (h : HoldsT w a n ts) : ts.length = n := by simpa [strsV] using h.1
theorem getD_map_str (ts : List Tx) (i : Nat) (hi : i < ts.length) : (strsV ts).getD i undef = .string (ts.getD i ByteArray.empty) := by
  simp [strsV, List.getD_eq_getElem?_getD, hi]
theorem HoldsT.at {w : World} {a : Option Addr} {n : Nat} {ts : List Tx} (h : HoldsT w a n ts) (h0 : 0 < n) : ∃ b o, a = some ⟨b, o, none⟩ ∧ ∀ i, i < n → w.cell? ⟨b, o + i, none⟩ = some (.string (ts.getD i ByteArray.empty)) := by
  obtain ⟨b, o, ha, hc⟩ := h.2 h0
  exact ⟨b, o, ha, fun i hi => by rw [hc i hi, getD_map_str ts i (by rw [h.len]; exact hi)]⟩
theorem HoldsT.nil (w : World) (a : Option Addr) : HoldsT w a 0 [] := ⟨rfl, fun h => absurd h (by omega)⟩
theorem HoldsT.below {w w' : World} {a : Option Addr} {n : Nat} {ts : List Tx} (h : HoldsT w a n ts) (hb : Below w.heap.size w w') : HoldsT w' a n ts := HoldsV.below h hb
theorem str_same (x : Tx) : (x.toList == x.toList) = true := by simp
end Go.Proofs.Ytgghbgmeebihbaa
namespace Go.Proofs.Ytgghbgmeebihbaa
open Go.ChangeShapes Go.WideShapes Go.ChangeAt Go.RowKit
set_option linter.unusedVariables false
set_option maxRecDepth 20000
abbrev KV := Int × Tx
def k0 : KV := (0, ByteArray.empty)
def HoldsK (w : World) (a : Option Addr) (n : Nat) (ks : List KV) : Prop := ks.length = n ∧ (0 < n → ∃ b o, a = some ⟨b, o, none⟩ ∧ ∀ i, i < n → w.cell? ⟨b, o + i * 2, none⟩ = some (.int .i64 (ks.getD i k0).1) ∧ w.cell? ⟨b, o + i * 2 + 1, none⟩ = some (.string (ks.getD i k0).2))
theorem HoldsK.len {w : World} {a : Option Addr} {n : Nat} {ks : List KV} (h : HoldsK w a n ks) : ks.length = n := h.1
theorem HoldsK.at {w : World} {a : Option Addr} {n : Nat} {ks : List KV} (h : HoldsK w a n ks) (h0 : 0 < n) : ∃ b o, a = some ⟨b, o, none⟩ ∧ ∀ i, i < n → w.cell? ⟨b, o + i * 2, none⟩ = some (.int .i64 (ks.getD i k0).1) ∧ w.cell? ⟨b, o + i * 2 + 1, none⟩ = some (.string (ks.getD i k0).2) := h.2 h0
theorem HoldsK.nil (w : World) (a : Option Addr) : HoldsK w a 0 [] := ⟨rfl, fun h => absurd h (by omega)⟩
theorem HoldsK.below {w w' : World} {a : Option Addr} {n : Nat} {ks : List KV} (h : HoldsK w a n ks) (hb : Below w.heap.size w w') : HoldsK w' a n ks := by
  refine ⟨h.1, fun h0 => ?_⟩
  obtain ⟨b, o, ha, hc⟩ := h.2 h0
  have hlt := lt_of_cell (hc 0 h0).1
  refine ⟨b, o, ha, fun i hi => ?_⟩
  rw [hb.cell (p := ⟨b, o + i * 2, none⟩) hlt, hb.cell (p := ⟨b, o + i * 2 + 1, none⟩) hlt]
  exact hc i hi
def keyV (k : KV) : Value := .agg #[.int .i64 k.1, .string k.2]
theorem cellsK_int : Try.prog.cellsOf 3 = 1 := by kernel_rfl
theorem cellsK_str : Try.prog.cellsOf 9 = 1 := by kernel_rfl
def ordK (a b : KV) : Int := if a.1 < b.1 then -1 else if b.1 < a.1 then 1 else cmpS a.2 b.2
def lessK (a b : KV) : Bool := decide (ordK a b < 0)
theorem ordK_bd (a b : KV) : ordK a b = -1 ∨ ordK a b = 0 ∨ ordK a b = 1 := by
  unfold ordK; split
  · simp
  · split
    · simp
    · exact cmpS_bd _ _
theorem ordK_swap (a b : KV) : ordK b a = - ordK a b := by
  unfold ordK
  rcases Int.lt_trichotomy a.1 b.1 with h | h | h
  · rw [if_pos h, if_neg (by omega), if_pos h]; rfl
  · rw [if_neg (by omega), if_neg (by omega), if_neg (by omega), if_neg (by omega), cmpS_swap]
  · rw [if_pos h, if_neg (by omega), if_pos h]
theorem ordK_lt {a b : KV} : ordK a b < 0 ↔ a.1 < b.1 ∨ (a.1 = b.1 ∧ cmpS a.2 b.2 < 0) := by
  unfold ordK
  rcases Int.lt_trichotomy a.1 b.1 with h | h | h
  · rw [if_pos h]; simp [h]
  · rw [if_neg (by omega), if_neg (by omega)]
    constructor
    · intro k; exact Or.inr ⟨h, k⟩
    · rintro (k | k)
      · omega
      · exact k.2
  · rw [if_neg (by omega), if_pos h]
    constructor
    · intro k; omega
    · rintro (k | k) <;> omega
theorem ordK_zero {a b : KV} : ordK a b = 0 ↔ a = b := by
  unfold ordK
  rcases Int.lt_trichotomy a.1 b.1 with h | h | h
  · rw [if_pos h]; constructor
    · intro k; omega
    · intro k; rw [k] at h; omega
  · rw [if_neg (by omega), if_neg (by omega), cmpS_zero]
    exact ⟨fun k => Prod.ext h k, fun k => by rw [k]⟩
  · rw [if_neg (by omega), if_pos h]; constructor
    · intro k; omega
    · intro k; rw [k] at h; omega
theorem ordK_trans {a b c : KV} (h : ordK a b < 0) (k : ordK b c < 0) : ordK a c < 0 := by
  rw [ordK_lt] at *
  rcases h with h | ⟨h, h'⟩ <;> rcases k with k | ⟨k, k'⟩
  · exact Or.inl (by omega)
  · exact Or.inl (by omega)
  · exact Or.inl (by omega)
  · exact Or.inr ⟨by omega, cmpS_trans h' k'⟩
theorem ordK_irrefl (a : KV) : ¬ ordK a a < 0 := by rw [ordK_zero.2 rfl]; omega
/-- not above, one behind the other -/
theorem ordK_le_trans {a b c : KV} (h : ¬ ordK b a < 0) (k : ¬ ordK c b < 0) : ¬ ordK c a < 0 := by
  intro h3
  rcases ordK_bd a b with e | e | e
  · exact k (ordK_trans h3 (by omega))
  · rw [ordK_zero.1 e] at h3; exact k h3
  · rw [ordK_swap] at h; omega
end Go.Proofs.Ytgghbgmeebihbaa
namespace Go.Proofs.Ytgghbgmeebihbaa
set_option linter.unusedVariables false
set_option maxRecDepth 20000
/-- not behind -/
def leK (a b : KV) : Prop := ¬ ordK b a < 0
theorem leK_refl (a : KV) : leK a a := ordK_irrefl a
theorem leK_trans {a b c : KV} (h : leK a b) (k : leK b c) : leK a c := ordK_le_trans h k
theorem leK_of_lt {a b : KV} (h : ordK a b < 0) : leK a b := by unfold leK; rw [ordK_swap]; omega
theorem leK_total (a b : KV) : leK a b ∨ leK b a := by unfold leK; have := ordK_swap a b; omega
theorem leK_asymm {a b : KV} (h : leK a b) (k : leK b a) : a = b := by
  unfold leK at h k; have := ordK_swap a b; exact ordK_zero.1 (by omega)
theorem leK_iff {a b : KV} : leK a b ↔ a = b ∨ ordK a b < 0 := by
  constructor
  · intro h
    by_cases e : ordK a b < 0
    · exact Or.inr e
    · exact Or.inl (leK_asymm h e)
  · rintro (h | h)
    · subst h; exact leK_refl a
    · exact leK_of_lt h
def SortedR (l : List KV) : Prop := l.Pairwise leK
theorem sortedK_unique : ∀ {xs ys : List KV}, SortedR xs → SortedR ys → xs.Perm ys → xs = ys
  | [], ys, _, _, p => (List.perm_nil.1 p.symm).symm
  | x :: xs, [], _, _, p => absurd (List.perm_nil.1 p) (by simp)
  | x :: xs, y :: ys, hx, hy, p => by
    have h1 : x = y := by
      have hy' : y ∈ x :: xs := p.mem_iff.2 (by simp)
      have hx' : x ∈ y :: ys := p.mem_iff.1 (by simp)
      rcases List.mem_cons.1 hy' with e | e
      · exact e.symm
      · rcases List.mem_cons.1 hx' with e2 | e2
        · exact e2
        · exact leK_asymm ((List.pairwise_cons.1 hx).1 y e) ((List.pairwise_cons.1 hy).1 x e2)
    subst h1
    rw [sortedK_unique (List.pairwise_cons.1 hx).2 (List.pairwise_cons.1 hy).2 (List.perm_cons x |>.1 p)]
/-- put in ahead of the first that it is ahead of -/
def putK (x : KV) : List KV → List KV
  | [] => [x]
  | y :: l => if ordK x y < 0 then x :: y :: l else y :: putK x l
theorem putK_perm (x : KV) : ∀ l, (putK x l).Perm (x :: l)
  | [] => List.Perm.refl _
  | y :: l => by
    unfold putK; split
    · exact List.Perm.refl _
    · exact ((putK_perm x l).cons y).trans (List.Perm.swap x y l)
theorem putK_sorted (x : KV) : ∀ l, SortedR l → SortedR (putK x l)
  | [], _ => by simp [putK, SortedR]
  | y :: l, h => by
    obtain ⟨h1, h2⟩ := List.pairwise_cons.1 h
    unfold putK; split
    · rename_i hlt
      refine List.pairwise_cons.2 ⟨fun z hz => ?_, h⟩
      rcases List.mem_cons.1 hz with rfl | hz
      · exact leK_of_lt hlt
      · exact leK_trans (leK_of_lt hlt) (h1 z hz)
    · rename_i hlt
      refine List.pairwise_cons.2 ⟨fun z hz => ?_, putK_sorted x l h2⟩
      rcases List.mem_cons.1 ((putK_perm x l).mem_iff.1 hz) with rfl | hz
      · exact hlt
      · exact h1 z hz
def sortK (l : List KV) : List KV := l.foldl (fun acc x => putK x acc) []
theorem foldK (l : List KV) : ∀ acc, SortedR acc → SortedR (l.foldl (fun acc x => putK x acc) acc) ∧ (l.foldl (fun acc x => putK x acc) acc).Perm (acc ++ l) := by
  induction l with
  | nil => intro acc h; simpa using h
  | cons x l ih =>
    intro acc h
    obtain ⟨h1, h2⟩ := ih (putK x acc) (putK_sorted x acc h)
    refine ⟨h1, h2.trans ?_⟩
    refine ((putK_perm x acc).append_right l).trans ?_
    exact (List.perm_middle (a := x) (l₁ := acc) (l₂ := l)).symm
theorem sortK_sorted (l : List KV) : SortedR (sortK l) := (foldK l [] List.Pairwise.nil).1
theorem sortK_perm (l : List KV) : (sortK l).Perm l := (foldK l [] List.Pairwise.nil).2
theorem sortK_length (l : List KV) : (sortK l).length = l.length := (sortK_perm l).length_eq
theorem sortK_mem {l : List KV} {x : KV} : x ∈ sortK l ↔ x ∈ l := (sortK_perm l).mem_iff
theorem sortK_of {l m : List KV} (h : SortedR m) (p : m.Perm l) : m = sortK l := sortedK_unique h (sortK_sorted l) (p.trans (sortK_perm l).symm)
def mleK (x y : KV) : Bool := !decide (ordK y x < 0)
theorem mergeK (l : List KV) : l.mergeSort mleK = sortK l := by
  refine sortK_of ?_ (List.mergeSort_perm l _)
  have h := List.pairwise_mergeSort (le := mleK) (fun a b c h1 h2 => by
    simp only [mleK, Bool.not_eq_true', decide_eq_false_iff_not] at *
    exact leK_trans h1 h2) (fun a b => by
    simp only [mleK, Bool.or_eq_true, Bool.not_eq_true', decide_eq_false_iff_not]
    exact leK_total a b) l
  exact h.imp fun {a b} hab => by
    simp only [mleK, Bool.not_eq_true', decide_eq_false_iff_not] at hab
    exact hab
end Go.Proofs.Ytgghbgmeebihbaa
namespace Go.Proofs.Ytgghbgmeebihbaa
open Go.RowKit
set_option linter.unusedVariables false
set_option maxRecDepth 20000
def keysV : List KV → List Value
  | [] => []
  | k :: ks => .int .i64 k.1 :: .string k.2 :: keysV ks
theorem keysV_len : ∀ ks : List KV, (keysV ks).length = ks.length * 2
  | [] => rfl
  | k :: ks => by simp [keysV, keysV_len ks]; omega
theorem keysV_app : ∀ ks ls : List KV, keysV (ks ++ ls) = keysV ks ++ keysV ls
  | [], ls => rfl
  | k :: ks, ls => by simp [keysV, keysV_app ks ls]
theorem keysV_one : ∀ (ks : List KV), ∀ u ∈ keysV ks, u.oneCell' = true
  | [], u, h => by simp [keysV] at h
  | k :: ks, u, h => by
    simp only [keysV, List.mem_cons] at h
    rcases h with h | h | h
    · subst h; rfl
    · subst h; rfl
    · exact keysV_one ks u h
theorem keysV_at : ∀ (ks : List KV) (i : Nat), i < ks.length → (keysV ks)[i * 2]? = some (.int .i64 (ks.getD i k0).1) ∧ (keysV ks)[i * 2 + 1]? = some (.string (ks.getD i k0).2)
  | [], i, h => by simp at h
  | k :: ks, 0, _ => by simp [keysV]
  | k :: ks, i + 1, h => by
    have ih := keysV_at ks i (by simpa using h)
    have e1 : (i + 1) * 2 = i * 2 + 1 + 1 := by omega
    rw [e1]
    simpa [keysV] using ih
theorem HoldsK.cells {w : World} {b o n : Nat} {ks : List KV} (h : HoldsK w (some ⟨b, o, none⟩) n ks) : ∀ j u, (keysV ks)[j]? = some u → w.cell? ((⟨b, o, none⟩ : Addr).add j) = some u := by
  intro j u hj
  have hl := h.len
  have hjl : j < (keysV ks).length := by
    rcases Nat.lt_or_ge j (keysV ks).length with h' | h'
    · exact h'
    · rw [List.getElem?_eq_none h'] at hj; cases hj
  rw [keysV_len] at hjl
  obtain ⟨b', o', ha, hc⟩ := h.at (by omega)
  cases ha
  obtain ⟨c1, c2⟩ := hc (j / 2) (by omega)
  obtain ⟨v1, v2⟩ := keysV_at ks (j / 2) (by omega)
  rw [Go.WideShapes.add_plain]
  have hcase : j = j / 2 * 2 ∨ j = j / 2 * 2 + 1 := by omega
  rcases hcase with e | e
  · rw [← e] at v1 c1
    rw [c1, ← hj, v1]
  · have e2 : o + j / 2 * 2 + 1 = o + j := by omega
    rw [← e] at v2
    rw [e2] at c2
    rw [c2, ← hj, v2]
theorem HoldsK.own {w : World} {B : Nat} {e : TypeId} {a : Option Addr} {n c : Nat} {ks : List KV} (h : w.ownsRow B e 2 (.slice a n c) n (keysV ks)) : HoldsK w a n ks := by
  have hl : ks.length = n := by have := h.1; rw [keysV_len] at this; omega
  refine ⟨hl, fun h0 => ?_⟩
  rcases h.2 with ⟨_, h1⟩ | ⟨g, cap, cur, hv, _, hh, hc, _, hs, hx⟩
  · omega
  · simp only [Value.slice.injEq] at hv
    obtain ⟨rfl, _, rfl⟩ := hv
    refine ⟨g, 0, rfl, fun i hi => ?_⟩
    obtain ⟨v1, v2⟩ := keysV_at ks i (by omega)
    rw [← hx] at v1 v2
    rw [List.getElem?_take_of_lt (by omega)] at v1 v2
    rw [Array.getElem?_toList] at v1 v2
    rw [Nat.zero_add, Joins.cell_of_block hh, Joins.cell_of_block hh]
    exact ⟨v1, v2⟩
theorem HoldsK.take {w : World} {a : Option Addr} {n : Nat} {ks : List KV} (h : HoldsK w a n ks) (k : Nat) (hk : k ≤ n) : HoldsK w a k (ks.take k) := by
  have hl := h.len
  refine ⟨by simp; omega, fun h0 => ?_⟩
  obtain ⟨b, o, ha, hc⟩ := h.at (by omega)
  refine ⟨b, o, ha, fun i hi => ?_⟩
  have e : (ks.take k).getD i k0 = ks.getD i k0 := by simp [List.getD_eq_getElem?_getD, List.getElem?_take_of_lt hi]
  rw [e]; exact hc i (by omega)
theorem HoldsK.cellsAny {w : World} {a : Option Addr} {n : Nat} {ks : List KV} (h : HoldsK w a n ks) {w' : World} (hg : w.grownBy w' none) : ∀ ad, a = some ad → ∀ j u, (keysV ks)[j]? = some u → w'.cell? (ad.add j) = some u := by
  intro ad ha j u hj
  have hjl : j < (keysV ks).length := (List.getElem?_eq_some_iff.1 hj).1
  rw [keysV_len] at hjl
  obtain ⟨b, o, hb, _⟩ := h.at (by have := h.len; omega)
  rw [ha] at hb
  obtain rfl := Option.some.inj hb
  subst ha
  exact hg.cell (h.cells j u hj) (by simp)
end Go.Proofs.Ytgghbgmeebihbaa
namespace Go.Proofs.Ytgghbgmeebihbaa
open Go.RowKit
set_option linter.unusedVariables false
set_option maxRecDepth 20000
set_option maxHeartbeats 400000 in
theorem len_any (s : ByteArray) (w : World) (hs : s.size ≤ 9223372036854775807) :
    Calls Try.prog 62 #[.string s] w fun e w' => e = .returned (.int .i64 (lenS s)) ∧ Below w.heap.size w w' := by
  go_enter Try.func62, Try.ntmps62
  go_wp2_with fail
  go_loopw [3] (fun n wr => ∃ (pos f : Nat) (P : List Nat), s.size ≤ pos + f ∧ n = .int .i64 P.length ∧ Hid (runesS s = P ++ runesN s f pos) ∧ Hid (∀ r ∈ P, r ≠ 65533) ∧ wr = w.iter s pos) (fun _ wr => s.size - wr.iterPos w.heap.size)
  case atStart => exact ⟨0, s.size, [], by omega, rfl, Lib.hid rfl, Lib.hid (by simp), rfl⟩
  case round =>
    obtain ⟨pos, f, P, hf, rfl, hP, hG, rfl⟩ := hrel
    by_cases hlt : pos < s.size
    · have hnx := fun ty => run_next_any (P := Try.prog) w s pos ty hlt
      obtain ⟨g, rfl, hst, hg⟩ := runesN_step s f pos hlt hf
      have hwd := decode_width s pos hlt
      have hlen : P.length < s.size := by
        have h1 := congrArg List.length hP.out
        rw [hst, List.length_append, List.length_cons] at h1
        have := runesS_le s
        omega
      have HST := Lib.hid hst
      obtain ⟨r, hr⟩ : ∃ r, (Utf8.decode s pos).1 = r := ⟨_, rfl⟩
      obtain ⟨wd, hwd2⟩ : ∃ wd, (Utf8.decode s pos).2 = wd := ⟨_, rfl⟩
      rw [hr, hwd2] at hnx HST; rw [hwd2] at hg hwd
      clear hst hr hwd2
      by_cases hbad : r = 65533
      · subst hbad
        go_wp2
        go_ret
        exact ⟨ret_int (lenS_bad (P := P) (Q := runesN s g (pos + wd)) (by rw [hP.out, HST.out])).symm, below_one _ _⟩
      · have hb : ((r : Int) == 65533) = false := by rw [beq_eq_false_iff_ne]; omega
        have HB := Lib.hid hbad
        clear hbad
        go_wp2
        go_roundw
        case rel => exact ⟨pos + wd, g, P ++ [r], hg, by rw [List.length_append]; go_num, Lib.hid (by rw [hP.out, HST.out]; simp), Lib.hid (by intro x hx; rcases List.mem_append.1 hx with hx | hx; exact hG.out x hx; simp at hx; rw [hx]; exact HB.out), rfl⟩
        case measure => simp; omega
    · have hnx := fun ty => run_next_end (P := Try.prog) w s pos ty hlt
      have he : runesS s = P := by rw [hP.out, runesN_end s f pos hlt, List.append_nil]
      have HE := Lib.hid he
      clear he
      go_wp2
      go_ret
      exact ⟨ret_int (by rw [lenS_good (by rw [HE.out]; exact hG.out), HE.out]), below_one _ _⟩
end Go.Proofs.Ytgghbgmeebihbaa
namespace Go.Proofs.Ytgghbgmeebihbaa
open Go.RowKit
set_option linter.unusedVariables false
set_option maxRecDepth 20000
theorem i32_info : (Try.prog.info? 21).map (fun i => (i.zero, i.size, i.bytes)) = some (some (.int .i32 0), 1, 4) := by kernel_rfl
/-- runes as numbers, as values -/
def intsN (rs : List Nat) : List Int := rs.map fun r : Nat => (r : Int)
def runesV (rs : List Int) : List Value := rs.map (Value.int .i32)
/-- A slice of runes that the call made. -/
def RetR (ER : TypeId) (w : World) (rs : List Int) (a : Option Addr) (c : Nat) (w' : World) : Prop :=
  w'.ownsRow w.heap.size ER 1 (.slice a rs.length c) rs.length (runesV rs) ∧ Below w.heap.size w w' ∧ (a = none → rs.length = 0 ∧ c = 0)
theorem RetR.holds {ER : TypeId} {w w' : World} {rs : List Int} {a : Option Addr} {c : Nat} (h : RetR ER w rs a c w') : HoldsI .i32 w' a rs.length rs := by
  have hv := owns_holds h.1
  refine ⟨rfl, fun h0 => ?_⟩
  obtain ⟨b, o, ha, hc⟩ := hv.2 h0
  exact ⟨b, o, ha, fun i hi => by rw [hc i hi, runesV, getD_map_int .i32 rs i hi]⟩
theorem runesV_snoc (P : List Nat) (r : Nat) : runesV (intsN (P ++ [r])) = runesV (intsN P) ++ [Value.int .i32 (r : Int)] := by simp [runesV, intsN]
theorem one_cells (w : World) (v : Value) (e : TypeId) (fr : Nat × Nat) : ∀ j u, [v][j]? = some u → (w.alloc (.cells #[v] e fr)).cell? ((⟨w.heap.size, 0, none⟩ : Addr).add j) = some u := one_new w v e fr _ rfl
theorem owns_iterAt {w : World} {base : Nat} {e : TypeId} {size : Nat} {v : Value} {n : Nat} {xs : List Value} (h : w.ownsRow base e size v n xs) {k : Nat} {s : ByteArray} {pos : Nat} (hk : w.heap[k]? = some (.stringIter s pos)) (pos' : Nat) :
    (w.iterAt k s pos').ownsRow base e size v n xs := by
  refine ⟨h.1, ?_⟩
  rcases h.2 with h0 | ⟨g, cap, cur, hv, hg, hh, r⟩
  · exact Or.inl h0
  · exact Or.inr ⟨g, cap, cur, hv, hg, by rw [Lib.iterAt_other w k g s pos' (fun e1 => by rw [e1, hk] at hh; cases hh)]; exact hh, r⟩
end Go.Proofs.Ytgghbgmeebihbaa
namespace Go.Proofs.Ytgghbgmeebihbaa
open Go.RowKit
set_option linter.unusedVariables false
set_option maxRecDepth 20000
def byteS (s : ByteArray) (i : Nat) : Nat := (s.get! i).toNat
def moreP (s : ByteArray) (i : Nat) : Prop := i < s.size ∧ 128 ≤ byteS s i ∧ byteS s i ≤ 191
instance (s : ByteArray) (i : Nat) : Decidable (moreP s i) := by unfold moreP; infer_instance
def goodP (r : Int) : Prop := 0 ≤ r ∧ r ≤ 1114111 ∧ (r < 55296 ∨ 57343 < r) ∧ r ≠ 65533
instance (r : Int) : Decidable (goodP r) := by unfold goodP; infer_instance
end Go.Proofs.Ytgghbgmeebihbaa
namespace Go.Proofs.Ytgghbgmeebihbaa
open Go.RowKit
set_option linter.unusedVariables false
set_option maxRecDepth 20000
theorem item_info : (Try.prog.info? 61).map (fun i => (i.zero, i.size, i.bytes)) = some (some (.agg #[.int .i64 0, .string ⟨#[]⟩]), 2, 24) := by kernel_rfl
/-- a new slice of these items -/
def RetI (w : World) (ys : List KV) (e : Ending) (w' : World) : Prop := ∃ a c, e = .returned (.slice a ys.length c) ∧ w'.ownsRow w.heap.size 61 2 (.slice a ys.length c) ys.length (keysV ys) ∧ Below w.heap.size w w'
theorem retI_own {w w' : World} {a : Option Addr} {c n : Nat} {ys zs : List KV} (h : ys = zs) (hn : ys.length = n) (hh : w'.ownsRow w.heap.size 61 2 (.slice a n c) n (keysV ys)) (hb : Below w.heap.size w w') (v : Value) (hv : v = .slice a n c) : RetI w zs (.returned v) w' := by
  subst h hn hv; exact ⟨a, c, rfl, hh, hb⟩
open Go.ChangeShapes Go.WideShapes Go.ChangeAt in
theorem two_new (w : World) (u v : Value) (e : TypeId) (fr : Nat × Nat) : ∀ ad, (some ⟨w.heap.size, 0, none⟩ : Option Addr) = some ad → ∀ j x, [u, v][j]? = some x → (w.alloc (.cells #[u, v] e fr)).cell? (ad.add j) = some x := by
  intro ad had j x hx
  obtain rfl := Option.some.inj had
  match j, hx with
  | 0, hx =>
    simp at hx; subst hx
    rw [add_plain, World.cell?_alloc_mark]; rfl
  | 1, hx =>
    simp at hx; subst hx
    rw [add_plain, World.cell?_alloc_mark]; rfl
theorem two_one (z : Int) (s : Tx) : ∀ u ∈ [Value.int .i64 z, .string s], u.oneCell' = true := by simp [Value.oneCell']
theorem keysV_snoc (ks : List KV) (k : KV) : keysV (ks ++ [k]) = keysV ks ++ [.int .i64 k.1, .string k.2] := by rw [keysV_app]; rfl
end Go.Proofs.Ytgghbgmeebihbaa
namespace Go.Proofs.Ytgghbgmeebihbaa
open Go.RowKit
set_option linter.unusedVariables false
set_option maxRecDepth 20000
theorem cloneI_any (a : Option Addr) (n cap : Nat) (l : List KV) (w : World) (hh : HoldsK w a n l) (hnil : a = none → n = 0 ∧ cap = 0) (hn : n ≤ 50000) :
    Calls Try.prog 42 #[.slice a n cap] w (RetI w l) := by
  obtain ⟨i0, hi, hz0, hz1, hz2⟩ := info_parts item_info
  have hll := hh.len
  cases a with
  | none =>
    obtain ⟨rfl, rfl⟩ := hnil rfl
    obtain rfl : l = [] := List.eq_nil_of_length_eq_zero hll
    have he := fun w => Lib.run_eql_slice_nil (P := Try.prog) w 34 61 none 0 0 0 0 Try.underlying34
    go_enter Try.func42, Try.ntmps42
    go_wp2_with fail
    go_ret
    exact retI_own rfl rfl (World.ownsRow_nil _ _ _ _) (Below.refl _ _) _ rfl
  | some ad =>
    have hnews : ∀ ad', (some ad : Option Addr) = some ad' → ∀ j u, (keysV l)[j]? = some u → (w.alloc (.cells #[] 61)).cell? (ad'.add j) = some u :=
      HoldsK.cellsAny hh (World.grownBy_alloc w _ none)
    have HN := Lib.hid hnews
    have hown : (w.alloc (.cells #[] 61)).ownsRow w.heap.size 61 2 (.slice (some ⟨w.heap.size, 0, none⟩) 0 0) 0 [] := World.ownsRow_lit w #[] 0 (Nat.le_refl _) (by unfold maxLen; omega) rfl
    have HO := Lib.hid hown
    clear hnews hown hh
    have he := fun w => Lib.run_eql_slice_nil (P := Try.prog) w 34 61 (some ad) n cap 0 0 Try.underlying34
    go_enter Try.func42, Try.ntmps42
    go_wp2_with (at_builtin; refine wpList_append_any rfl (.tmp 5) (.tmp 6) 34 rfl w.heap.size 61 i0 _ 2 24 Try.underlying34 hi hz0 hz1 hz2 rfl (by decide) _ 0 [] rfl HO.out _ n cap (keysV l) rfl (some_none _) (by rw [keysV_len, hll]) HN.out (keysV_one _) (by unfold maxLen; omega) (by omega) (by simp) ?_; intro a3 c3 w3 hown3 hb3 hnil3)
    rw [Nat.zero_add, List.nil_append] at hown3
    go_ret
    exact retI_own rfl hll hown3 ((below_one w (.cells #[] 61)).trans (hb3)) _ (by simp)
end Go.Proofs.Ytgghbgmeebihbaa
namespace Go.Proofs.Ytgghbgmeebihbaa
open Go.RowKit
set_option linter.unusedVariables false
set_option maxRecDepth 20000
theorem isNaNI_any (x : Int) (w : World) : Calls Try.prog 84 #[.int .i64 x] w fun e w' => e = .returned (.bool false) ∧ w = w' := by
  go_enter Try.func84, Try.ntmps84
  go_wp2
  go_ret
  exact ⟨ret_bool (by simp), rfl⟩
def cmpZ (x y : Int) : Int := if x < y then -1 else if y < x then 1 else 0
theorem compareZ_any (x y : Int) (w : World) : Calls Try.prog 69 #[.int .i64 x, .int .i64 y] w fun e w' => e = .returned (.int .i64 (cmpZ x y)) ∧ w = w' := by
  rcases Int.lt_trichotomy x y with h | h | h
  · have hv : cmpZ x y = -1 := by unfold cmpZ; rw [if_pos h]
    have x1 : decide (x < y) = true := decide_eq_true h
    rw [hv]
    go_enter Try.func69, Try.ntmps69
    go_wp2_with fail
    refine (isNaNI_any x _).mono ?_
    rintro e w' ⟨rfl, rfl⟩
    go_wp2_with fail
    refine (isNaNI_any y _).mono ?_
    rintro e w' ⟨rfl, rfl⟩
    go_wp2_with fail
    go_ret
    exact ⟨rfl, rfl⟩
  · subst h
    have hv : cmpZ x x = 0 := by unfold cmpZ; rw [if_neg (by omega), if_neg (by omega)]
    rw [hv]
    go_enter Try.func69, Try.ntmps69
    go_wp2_with fail
    refine (isNaNI_any x _).mono ?_
    rintro e w' ⟨rfl, rfl⟩
    go_wp2_with fail
    refine (isNaNI_any x _).mono ?_
    rintro e w' ⟨rfl, rfl⟩
    go_wp2_with fail
    go_ret
    exact ⟨rfl, rfl⟩
  · have hv : cmpZ x y = 1 := by unfold cmpZ; rw [if_neg (by omega), if_pos h]
    have x1 : decide (x < y) = false := decide_eq_false (by omega)
    have x2 : decide (x > y) = true := decide_eq_true h
    rw [hv]
    go_enter Try.func69, Try.ntmps69
    go_wp2_with fail
    refine (isNaNI_any x _).mono ?_
    rintro e w' ⟨rfl, rfl⟩
    go_wp2_with fail
    refine (isNaNI_any y _).mono ?_
    rintro e w' ⟨rfl, rfl⟩
    go_wp2_with fail
    go_ret
    exact ⟨rfl, rfl⟩
def orZ (x y : Int) : Int := if x = 0 then y else x
theorem or_any (b o : Nat) (x y : Int) (w : World) (h0 : w.cell? ⟨b, o, none⟩ = some (.int .i64 x)) (h1 : w.cell? ⟨b, o + 1, none⟩ = some (.int .i64 y)) :
    Calls Try.prog 68 #[.slice (some ⟨b, o, none⟩) 2 2] w fun e w' => e = .returned (.int .i64 (orZ x y)) ∧ w = w' := by
  by_cases hx : x = 0
  · subst hx
    have hv : orZ 0 y = y := rfl
    have x1 : ((0 : Int) != 0) = false := rfl
    rw [hv]
    by_cases hy : y = 0
    · subst hy
      go_enter Try.func68, Try.ntmps68
      go_wp2_with fail
      go_loop [8] (fun iv => ∃ i : Nat, i ≤ 2 ∧ iv = .int .i64 i) (fun iv => 2 - (intOf iv).toNat)
      case atStart => exact ⟨0, by omega, rfl⟩
      case round =>
        obtain ⟨i, hi, rfl⟩ := hrel
        have hc : i = 0 ∨ i = 1 ∨ i = 2 := by omega
        rcases hc with rfl | rfl | rfl
        · go_wp2_with fail
          go_round
          case rel => exact ⟨1, by omega, by go_num⟩
          case measure => simp [intOf]
        · go_wp2_with fail
          go_round
          case rel => exact ⟨2, by omega, by go_num⟩
          case measure => simp [intOf]
        · go_wp2_with fail
          go_ret
          exact ⟨rfl, rfl⟩
    · have x2 : (y != 0) = true := by simp [hy]
      go_enter Try.func68, Try.ntmps68
      go_wp2_with fail
      go_loop [8] (fun iv => ∃ i : Nat, i ≤ 1 ∧ iv = .int .i64 i) (fun iv => 2 - (intOf iv).toNat)
      case atStart => exact ⟨0, by omega, rfl⟩
      case round =>
        obtain ⟨i, hi, rfl⟩ := hrel
        have hc : i = 0 ∨ i = 1 := by omega
        rcases hc with rfl | rfl
        · go_wp2_with fail
          go_round
          case rel => exact ⟨1, by omega, by go_num⟩
          case measure => simp [intOf]
        · go_wp2_with fail
          go_ret
          exact ⟨rfl, rfl⟩
  · have x2 : (x != 0) = true := by simp [hx]
    have hv : orZ x y = x := if_neg hx
    rw [hv]
    go_enter Try.func68, Try.ntmps68
    go_wp2_with fail
    go_loop [8] (fun iv => iv = .int .i64 0) (fun iv => 0)
    case atStart => rfl
    case round =>
      obtain rfl := hrel
      go_wp2_with fail
      go_ret
      exact ⟨rfl, rfl⟩
theorem ordK_or (a b : KV) : ordK a b = orZ (cmpZ a.1 b.1) (cmpS a.2 b.2) := by
  unfold ordK orZ cmpZ
  rcases Int.lt_trichotomy a.1 b.1 with h | h | h
  · simp [h]
  · have h1 : ¬ a.1 < b.1 := by omega
    have h2 : ¬ b.1 < a.1 := by omega
    simp [h1, h2]
  · have h1 : ¬ a.1 < b.1 := by omega
    simp [h, h1]
end Go.Proofs.Ytgghbgmeebihbaa
namespace Go.Proofs.Ytgghbgmeebihbaa
open Go.RowKit Go.Sort
set_option linter.unusedVariables false
set_option maxRecDepth 20000
/-- nothing has turned; blocks have been laid, and answers drawn -/
def Grows (w w' : World) : Prop := ∃ q os, w' = grow (w.drewN q) os
theorem Grows.refl (w : World) : Grows w w := ⟨0, #[], by simp [World.drewN]⟩
theorem Grows.drewN {w w' : World} (h : Grows w w') (n : Nat) : Grows w (w'.drewN n) := by
  obtain ⟨q, os, rfl⟩ := h
  refine ⟨q + n, os, ?_⟩
  simp [World.drewN, grow, Nat.add_assoc]
theorem Grows.alloc {w w' : World} (h : Grows w w') (o : Obj) : Grows w (w'.alloc o) := by
  obtain ⟨q, os, rfl⟩ := h
  exact ⟨q, os ++ #[o], by rw [alloc_eq_grow, grow_grow]⟩
theorem Grows.below {w w' : World} (h : Grows w w') : Below w.heap.size w w' := by
  obtain ⟨q, os, rfl⟩ := h
  exact ⟨rfl, rfl, rfl, by simp [grow, World.drewN], fun k hk => heap_grow_old (w.drewN q) os hk⟩
theorem Grows.trans {w w1 w2 : World} (h : Grows w w1) (k : Grows w1 w2) : Grows w w2 := by
  obtain ⟨q, os, rfl⟩ := k
  exact (h.drewN q).elim fun p ⟨os', e⟩ => ⟨p, os' ++ os, by rw [e, grow_grow]⟩
def Box4g (w0 : World) (p q : Nat) (v0 v1 v2 v3 : Value) (w : World) : Prop := Grows w0 w ∧ w.cell? ⟨p, 0, none⟩ = some v0 ∧ w.cell? ⟨p, 1, none⟩ = some v1 ∧ w.cell? ⟨q, 0, none⟩ = some v2 ∧ w.cell? ⟨q, 1, none⟩ = some v3
theorem box4g_carry {w0 w w' : World} {p q : Nat} {v0 v1 v2 v3 : Value} (h : Box4g w0 p q v0 v1 v2 v3 w) (hb : Grows w w') : Box4g w0 p q v0 v1 v2 v3 w' :=
  have hb' := hb.below
  ⟨h.1.trans hb, by rw [hb'.cell (p := ⟨p, 0, none⟩) (lt_of_cell h.2.1)]; exact h.2.1, by rw [hb'.cell (p := ⟨p, 1, none⟩) (lt_of_cell h.2.1)]; exact h.2.2.1, by rw [hb'.cell (p := ⟨q, 0, none⟩) (lt_of_cell h.2.2.2.1)]; exact h.2.2.2.1, by rw [hb'.cell (p := ⟨q, 1, none⟩) (lt_of_cell h.2.2.2.1)]; exact h.2.2.2.2⟩
set_option maxHeartbeats 3200000 in
theorem iorder_grows (a b : KV) (w : World) :
    Calls Try.prog 56 #[keyV a, keyV b] w fun e w' => e = .returned (.int .i64 (ordK a b)) ∧ Grows w w' := by
  obtain ⟨a1, a2⟩ := a
  obtain ⟨b1, b2⟩ := b
  have hv := ordK_or (a1, a2) (b1, b2)
  obtain ⟨v, hv2⟩ : ∃ v, ordK (a1, a2) (b1, b2) = v := ⟨_, rfl⟩
  rw [hv2] at hv ⊢
  simp only at hv
  unfold keyV
  simp only
  have C1 := Lib.hid (fun w => compareZ_any a1 b1 w)
  have C2 := Lib.hid (fun w => compare_any a2 b2 w)
  obtain ⟨x, hx⟩ : ∃ x, cmpZ a1 b1 = x := ⟨_, rfl⟩
  obtain ⟨y, hy⟩ : ∃ y, cmpS a2 b2 = y := ⟨_, rfl⟩
  rw [hx] at C1 hv; rw [hy] at C2 hv
  have HV := Lib.hid hv
  clear hv hv2 hx hy
  go_enter Try.func56, Try.ntmps56
  go_upto_region 1 with fail
  have e0 : ((w.alloc (.cells #[.int .i64 a1, .string a2] 61)).alloc (.cells #[.int .i64 b1, .string b2] 61)).cell? ⟨w.heap.size, 0, none⟩ = some (.int .i64 a1) := by simp
  have e1 : ((w.alloc (.cells #[.int .i64 a1, .string a2] 61)).alloc (.cells #[.int .i64 b1, .string b2] 61)).cell? ⟨w.heap.size, 1, none⟩ = some (.string a2) := by simp
  have e2 : ((w.alloc (.cells #[.int .i64 a1, .string a2] 61)).alloc (.cells #[.int .i64 b1, .string b2] 61)).cell? ⟨w.heap.size + 1, 0, none⟩ = some (.int .i64 b1) := by simp
  have e3 : ((w.alloc (.cells #[.int .i64 a1, .string a2] 61)).alloc (.cells #[.int .i64 b1, .string b2] 61)).cell? ⟨w.heap.size + 1, 1, none⟩ = some (.string b2) := by simp
  have BB := Lib.hid (((Grows.refl w).alloc (.cells #[.int .i64 a1, .string a2] 61)).alloc (.cells #[.int .i64 b1, .string b2] 61))
  generalize (w.alloc (.cells #[.int .i64 a1, .string a2] 61)).alloc (.cells #[.int .i64 b1, .string b2] 61) = w1 at *
  obtain ⟨q, hq⟩ : ∃ q, w.heap.size + 1 = q := ⟨_, rfl⟩
  rw [hq] at e2 e3 ⊢
  have T := Lib.hid (show Box4g w1 w.heap.size q (.int .i64 a1) (.string a2) (.int .i64 b1) (.string b2) w1 from ⟨Grows.refl _, e0, e1, e2, e3⟩)
  clear e0 e1 e2 e3 hq
  go_region_held3 (fun w' => Grows w1 w' ∧ w'.cell? ⟨w.heap.size, 0, none⟩ = some (.int .i64 a1) ∧ w'.cell? ⟨w.heap.size, 1, none⟩ = some (.string a2) ∧ w'.cell? ⟨q, 0, none⟩ = some (.int .i64 b1) ∧ w'.cell? ⟨q, 1, none⟩ = some (.string b2))
    (first | assumption | exact box4g_carry T.out ((Grows.refl _).drewN _) | exact box4g_carry T.out (Grows.refl _).drew | exact box4g_carry (by assumption) ((Grows.refl _).alloc _) | exact box4g_carry (by assumption) (by assumption))
    (first
      | (go_at_call 69; refine (C1.out _).mono ?_; rintro e w' ⟨rfl, rfl⟩)
      | (go_at_call 53; refine (C2.out _).mono ?_; rintro e w' ⟨rfl, rfl⟩)
      | (go_at_call 68; refine (or_any _ _ x y _ (by simp) (by simp)).mono ?_; rintro e w' ⟨rfl, rfl⟩))
  rename_i T5
  obtain ⟨hb5, -⟩ := T5
  go_wp2_with fail
  go_ret
  exact ⟨ret_int HV.out.symm, BB.out.trans hb5⟩
theorem iorder_any (a b : KV) (w : World) :
    Calls Try.prog 56 #[keyV a, keyV b] w fun e w' => e = .returned (.int .i64 (ordK a b)) ∧ Below w.heap.size w w' :=
  (iorder_grows a b w).mono fun _ _ h => ⟨h.1, h.2.below⟩
theorem iless_any (a b : KV) (w : World) :
    Calls Try.prog 34 #[keyV a, keyV b] w fun e w' => e = .returned (.bool (lessK a b)) ∧ Below w.heap.size w w' := by
  obtain ⟨v, hv⟩ : ∃ v, ordK a b = v := ⟨_, rfl⟩
  have hl : lessK a b = decide (v < 0) := by unfold lessK; rw [hv]
  have O := Lib.hid (fun w => iorder_any a b w)
  rw [hv] at O
  rw [hl]
  clear hl hv
  obtain ⟨a1, a2⟩ := a
  obtain ⟨b1, b2⟩ := b
  unfold keyV at *
  simp only at *
  go_enter Try.func34, Try.ntmps34
  go_wp2_with fail
  refine (O.out _).mono ?_
  rintro e w' ⟨rfl, hb⟩
  go_wp2_with fail
  go_ret
  exact ⟨rfl, (((Below.refl _ _).alloc (Nat.le_refl _) _).alloc (by simp) _).trans (hb.mono (by simp; omega))⟩
theorem iless_lit (a b : KV) (c : Bool) (w : World) (h : lessK a b = c) :
    Calls Try.prog 34 #[keyV a, keyV b] w fun e w' => e = .returned (.bool c) ∧ Below w.heap.size w w' := by subst h; exact iless_any a b w
end Go.Proofs.Ytgghbgmeebihbaa
namespace Go.Proofs.Ytgghbgmeebihbaa
open Go.RowKit
set_option linter.unusedVariables false
set_option maxRecDepth 20000
/-- apart from the blocks of F, and new ones, the world w' is as w was -/
structure Turn (F : Nat → Prop) (w w' : World) : Prop where
  os : w'.os = w.os
  tape : w'.tape = w.tape
  output : w'.output = w.output
  size : w.heap.size ≤ w'.heap.size
  block : ∀ k, k < w.heap.size → ¬ F k → w'.heap[k]? = w.heap[k]?
theorem Turn.refl (F : Nat → Prop) (w : World) : Turn F w w := ⟨rfl, rfl, rfl, Nat.le_refl _, fun _ _ _ => rfl⟩
theorem Turn.trans {F : Nat → Prop} {w w1 w2 : World} (h : Turn F w w1) (k : Turn F w1 w2) : Turn F w w2 :=
  ⟨k.os.trans h.os, k.tape.trans h.tape, k.output.trans h.output, Nat.le_trans h.size k.size, fun i hi hF => (k.block i (Nat.lt_of_lt_of_le hi h.size) hF).trans (h.block i hi hF)⟩
theorem Turn.mono {F G : Nat → Prop} {w w' : World} (h : Turn F w w') (hF : ∀ k, F k → G k) : Turn G w w' := ⟨h.os, h.tape, h.output, h.size, fun k hk hn => h.block k hk (fun x => hn (hF k x))⟩
/-- what was new in the first step may turn in the second -/
theorem Turn.trans' {F G : Nat → Prop} {w w1 w2 : World} (h : Turn F w w1) (k : Turn G w1 w2) (hG : ∀ i, G i → F i ∨ w.heap.size ≤ i) : Turn F w w2 :=
  ⟨k.os.trans h.os, k.tape.trans h.tape, k.output.trans h.output, Nat.le_trans h.size k.size, fun i hi hF => (k.block i (Nat.lt_of_lt_of_le hi h.size) (fun g => by rcases hG i g with x | x; exact hF x; omega)).trans (h.block i hi hF)⟩
theorem Turn.setCell {F : Nat → Prop} {w : World} {b o : Nat} {v : Value} (hb : F b) : Turn F w (w.setCell ⟨b, o, none⟩ v) :=
  ⟨rfl, rfl, rfl, by simp [World.setCell], fun k _ hk => Below.heap_setCell _ _ _ _ (fun e => hk (by rw [e]; exact hb))⟩
theorem Turn.of_below {F : Nat → Prop} {w w' : World} (h : Below w.heap.size w w') : Turn F w w' := ⟨h.os, h.tape, h.output, h.size, fun k hk _ => h.block k hk⟩
theorem Turn.below {F : Nat → Prop} {B : Nat} {w w' : World} (h : Turn F w w') (hF : ∀ k, F k → B ≤ k) (hB : B ≤ w.heap.size) : Below B w w' :=
  ⟨h.os, h.tape, h.output, h.size, fun k hk => h.block k (by omega) (fun x => by have := hF k x; omega)⟩
theorem Turn.cell {F : Nat → Prop} {w w' : World} (h : Turn F w w') {b o : Nat} (hb : b < w.heap.size) (hF : ¬ F b) : w'.cell? ⟨b, o, none⟩ = w.cell? ⟨b, o, none⟩ := World.cell?_of_block (w := w) (h.block b hb hF)
theorem Turn.frozen {F : Nat → Prop} {w w' : World} (h : Turn F w w') {b o : Nat} (hb : b < w.heap.size) (hF : ¬ F b) : w'.frozen? ⟨b, o, none⟩ = w.frozen? ⟨b, o, none⟩ := World.frozen?_of_block (w := w) (h.block b hb hF)
theorem cset_at {w : World} {b o : Nat} {u v : Value} (h : w.cell? ⟨b, o, none⟩ = some u) : (w.setCell ⟨b, o, none⟩ v).cell? ⟨b, o, none⟩ = some v := World.cell?_setCell_same _ _ _ h
theorem cset_ne {w : World} {b o p : Nat} {v : Value} (h : o ≠ p) : (w.setCell ⟨b, o, none⟩ v).cell? ⟨b, p, none⟩ = w.cell? ⟨b, p, none⟩ := World.cell?_setCell_other _ _ _ _ (by intro e; injection e; contradiction)
theorem cset_far {w : World} {b c o p : Nat} {v : Value} (h : b ≠ c) : (w.setCell ⟨b, o, none⟩ v).cell? ⟨c, p, none⟩ = w.cell? ⟨c, p, none⟩ := World.cell?_setCell_other _ _ _ _ (by intro e; injection e; contradiction)
theorem fset_any {w : World} {a : Addr} {v : Value} {p : Addr} : (w.setCell a v).frozen? p = w.frozen? p := by simp
theorem cell_alloc {w : World} {cs : Array Value} {T : TypeId} {B o : Nat} (hB : B = w.heap.size) : (w.alloc (.cells cs T)).cell? ⟨B, o, none⟩ = cs[o]? := by subst hB; simp
theorem frozen_alloc {w : World} {cs : Array Value} {T : TypeId} {B o : Nat} (hB : B = w.heap.size) : (w.alloc (.cells cs T)).frozen? ⟨B, o, none⟩ = false := by subst hB; simp
end Go.Proofs.Ytgghbgmeebihbaa
namespace Go.Proofs.Ytgghbgmeebihbaa
open Go.RowKit
set_option linter.unusedVariables false
set_option maxRecDepth 20000
def lowV (x n : Int) : Int := IntKind.u64.wrap x % n
theorem low_bd (x n : Int) (h : 0 < n) : 0 ≤ lowV x n ∧ lowV x n < n := ⟨Int.emod_nonneg _ (by omega), Int.emod_lt_of_pos _ h⟩
theorem u64_in (n : Int) (h : 0 ≤ n) (h2 : n < 18446744073709551616) : IntKind.u64.wrap n = n := by
  simp only [IntKind.wrap, IntKind.signed, IntKind.bits]; simp; omega
theorem u64_bdL (d : Int) : 0 ≤ IntKind.u64.wrap d ∧ IntKind.u64.wrap d < 18446744073709551616 := by
  simp only [IntKind.wrap, IntKind.signed, IntKind.bits]; simp; omega
theorem low_any (x n : Int) (h : 1 ≤ n) (h2 : n < 4611686018427387904) (w : World) :
    Calls Try.prog 26 #[.int .i64 x, .int .i64 n] w fun e w' => e = .returned (.int .i64 (lowV x n)) ∧ w = w' := by
  have hb := low_bd x n (by omega)
  have hw := u64_in n (by omega) (by omega)
  have hx := u64_bdL x
  go_enter Try.func26, Try.ntmps26
  go_wp2
  go_ret
  exact ⟨ret_int (by unfold lowV at *; rw [IntWalk.wrap64_in _ ⟨by omega, by omega⟩]), rfl⟩
end Go.Proofs.Ytgghbgmeebihbaa
namespace Go.Proofs.Ytgghbgmeebihbaa
open Go.RowKit
set_option linter.unusedVariables false
set_option maxRecDepth 20000
set_option maxHeartbeats 400000 in
theorem sameInts_any (a1 a2 : Option Addr) (n1 c1 n2 c2 : Nat) (z1 z2 : List Int) (w : World) (h1 : HoldsI .i64 w a1 n1 z1) (h2 : HoldsI .i64 w a2 n2 z2) (hl1 : n1 ≤ 4611686018427387904) (hl2 : n2 ≤ 4611686018427387904) :
    Calls Try.prog 35 #[.slice a1 n1 c1, .slice a2 n2 c2] w fun e w' => e = .returned (.bool (decide (z1 = z2))) ∧ ∃ m, w' = w.drewN m := by
  obtain ⟨g1, g1'⟩ := h1
  obtain ⟨g2, g2'⟩ := h2
  by_cases hn : n1 = n2
  · subst hn
    rcases Nat.eq_zero_or_pos n1 with h0 | h0
    · subst h0
      clear g1' g2'
      obtain rfl := List.eq_nil_of_length_eq_zero g1
      obtain rfl := List.eq_nil_of_length_eq_zero g2
      go_enter Try.func35, Try.ntmps35
      go_wp2
      go_loop [5] (fun i => i = .int .i64 0) (fun _ => 0)
      case atStart => rfl
      case round =>
        obtain rfl := hrel
        go_wp2
        go_ret
        exact ⟨rfl, 0, rfl⟩
    · obtain ⟨b1, o1, rfl, k1⟩ := g1' h0
      obtain ⟨b2, o2, rfl, k2⟩ := g2' h0
      clear g1' g2'
      have G1 := Lib.hid g1; have G2 := Lib.hid g2; have K1 := Lib.hid k1; have K2 := Lib.hid k2
      clear g1 g2 k1 k2
      go_enter Try.func35, Try.ntmps35
      go_wp2
      go_loopw [5] (fun i wr => ∃ k m : Nat, k ≤ n1 ∧ i = .int .i64 k ∧ z1.take k = z2.take k ∧ wr = w.drewN m) (fun i _ => n1 - (intOf i).toNat)
      case atStart => exact ⟨0, 0, by omega, rfl, rfl, rfl⟩
      case round =>
        obtain ⟨k, m, hk, rfl, he, rfl⟩ := hrel
        have HE := Lib.hid he
        clear he
        by_cases hlt : k < n1
        · have e1 := K1.out k hlt
          have e2 := K2.out k hlt
          obtain ⟨x, hx⟩ : ∃ x, z1.getD k 0 = x := ⟨_, rfl⟩
          obtain ⟨y, hy⟩ : ∃ y, z2.getD k 0 = y := ⟨_, rfl⟩
          rw [hx] at e1; rw [hy] at e2
          have HX := Lib.hid hx; have HY := Lib.hid hy
          clear hx hy
          by_cases hxy : x = y
          · subst hxy
            go_wp2
            go_quiet (fail)
            go_wp2
            go_roundw
            case rel => exact ⟨k + 1, _, by omega, by go_num, by rw [take_succ_getD z1 0 k (by rw [G1.out]; exact hlt), take_succ_getD z2 0 k (by rw [G2.out]; exact hlt), HE.out, HX.out, HY.out], rfl⟩
            case measure => simp [intOf]; omega
          · have hb : (x != y) = true := by simpa using hxy
            go_wp2
            go_quiet (fail)
            go_wp2
            go_ret
            exact ⟨ret_bool (by symm; rw [decide_eq_false_iff_not]; exact take_ne_of_getD 0 k (by rw [HX.out, HY.out]; exact hxy)), _, World.drewN_drewN _ _ _⟩
        · have hkn : k = n1 := by omega
          have HK := Lib.hid hkn
          clear hkn
          go_wp2
          go_ret
          exact ⟨ret_bool (by symm; rw [decide_eq_true_iff]; exact take_eq_all (n := k) HE.out (by rw [G1.out, HK.out]) (by rw [G2.out, HK.out])), _, rfl⟩
  · have hb : ((n1 : Int) != (n2 : Int)) = true := by simp; omega
    clear g1' g2'
    have HN := Lib.hid hn; have G1 := Lib.hid g1; have G2 := Lib.hid g2
    clear hn g1 g2
    go_enter Try.func35, Try.ntmps35
    go_wp2
    go_ret
    exact ⟨ret_bool (by symm; rw [decide_eq_false_iff_not]; intro e; exact HN.out (by rw [← G1.out, ← G2.out, e])), 0, rfl⟩
end Go.Proofs.Ytgghbgmeebihbaa
namespace Go.Proofs.Ytgghbgmeebihbaa
open Go.RowKit
set_option linter.unusedVariables false
set_option maxRecDepth 20000
/-- what is known of a shard, and where its items that wait lie -/
structure SM where
  least : Int
  ended : Bool
  seq : Int
  rcv : Bool
  last : KV
  wa : Option Addr
  wn : Nat
  wc : Nat
  wait : List KV
def sm0 : SM := ⟨0, false, 0, false, k0, none, 0, 0, []⟩
def smV : List SM → List Value
  | [] => []
  | x :: l => .int .i64 x.least :: .bool x.ended :: .int .i64 x.seq :: .bool x.rcv :: .int .i64 x.last.1 :: .string x.last.2 :: .slice x.wa x.wn x.wc :: smV l
theorem smV_len : ∀ l : List SM, (smV l).length = l.length * 7
  | [] => rfl
  | x :: l => by simp [smV, smV_len l]; omega
theorem smV_app : ∀ k l : List SM, smV (k ++ l) = smV k ++ smV l
  | [], l => rfl
  | x :: k, l => by simp [smV, smV_app k l]
theorem smV_at : ∀ (l : List SM) (i : Nat), i < l.length → (smV l)[i * 7]? = some (.int .i64 (l.getD i sm0).least) ∧ (smV l)[i * 7 + 1]? = some (.bool (l.getD i sm0).ended) ∧ (smV l)[i * 7 + 2]? = some (.int .i64 (l.getD i sm0).seq) ∧ (smV l)[i * 7 + 3]? = some (.bool (l.getD i sm0).rcv) ∧ (smV l)[i * 7 + 4]? = some (.int .i64 (l.getD i sm0).last.1) ∧ (smV l)[i * 7 + 5]? = some (.string (l.getD i sm0).last.2) ∧ (smV l)[i * 7 + 6]? = some (.slice (l.getD i sm0).wa (l.getD i sm0).wn (l.getD i sm0).wc)
  | [], i, h => by simp at h
  | x :: l, 0, _ => by simp [smV]
  | x :: l, i + 1, h => by
    have ih := smV_at l i (by simpa using h)
    have e1 : (i + 1) * 7 = i * 7 + 1 + 1 + 1 + 1 + 1 + 1 + 1 := by omega
    rw [e1]
    simpa [smV] using ih
/-- a shard at o of block p -/
def SmAt (w : World) (p o : Nat) (x : SM) : Prop := w.cell? ⟨p, o, none⟩ = some (.int .i64 x.least) ∧ w.cell? ⟨p, o + 1, none⟩ = some (.bool x.ended) ∧ w.cell? ⟨p, o + 2, none⟩ = some (.int .i64 x.seq) ∧ w.cell? ⟨p, o + 3, none⟩ = some (.bool x.rcv) ∧ w.cell? ⟨p, o + 4, none⟩ = some (.int .i64 x.last.1) ∧ w.cell? ⟨p, o + 5, none⟩ = some (.string x.last.2) ∧ w.cell? ⟨p, o + 6, none⟩ = some (.slice x.wa x.wn x.wc)
theorem SmAt.of {w w' : World} {p o : Nat} {x : SM} (h : SmAt w p o x) (e : ∀ i, w'.cell? ⟨p, i, none⟩ = w.cell? ⟨p, i, none⟩) : SmAt w' p o x := by
  unfold SmAt at *
  rw [e, e, e, e, e, e, e]; exact h
theorem SmAt.below {w w' : World} {p o : Nat} {x : SM} (h : SmAt w p o x) (hb : Below w.heap.size w w') : SmAt w' p o x := h.of fun i => hb.cell (p := ⟨p, i, none⟩) (lt_of_cell h.1)
theorem smAt_new (w : World) (x : SM) (p : Nat) (e : TypeId) (fr : Nat × Nat) (hp : p = w.heap.size) : SmAt (w.alloc (.cells #[.int .i64 x.least, .bool x.ended, .int .i64 x.seq, .bool x.rcv, .int .i64 x.last.1, .string x.last.2, .slice x.wa x.wn x.wc] e fr)) p 0 x := by
  subst hp
  unfold SmAt
  refine ⟨?_, ?_, ?_, ?_, ?_, ?_, ?_⟩ <;> (rw [World.cell?_alloc_mark]; rfl)
def HoldsS (w : World) (a : Option Addr) (n : Nat) (L : List SM) : Prop := L.length = n ∧ (0 < n → ∃ b o, a = some ⟨b, o, none⟩ ∧ ∀ i, i < n → SmAt w b (o + i * 7) (L.getD i sm0))
theorem HoldsS.below {w w' : World} {a : Option Addr} {n : Nat} {L : List SM} (h : HoldsS w a n L) (hb : Below w.heap.size w w') : HoldsS w' a n L := by
  refine ⟨h.1, fun h0 => ?_⟩
  obtain ⟨b, o, ha, hc⟩ := h.2 h0
  exact ⟨b, o, ha, fun i hi => (hc i hi).below hb⟩
theorem holdsS_own {w : World} {base : Nat} {e : TypeId} {a : Option Addr} {n c : Nat} {L : List SM} (h : w.ownsRow base e 7 (.slice a n c) n (smV L)) : HoldsS w a n L := by
  have hl : L.length = n := by have := h.1; rw [smV_len] at this; omega
  refine ⟨hl, fun h0 => ?_⟩
  obtain ⟨g, cap', hv⟩ := Joins.ownsRow_form h (by omega)
  simp only [Value.slice.injEq] at hv
  obtain ⟨rfl, -, -⟩ := hv
  refine ⟨g, 0, rfl, fun i hi => ?_⟩
  obtain ⟨v0, v1, v2, v3, v4, v5, v6⟩ := smV_at L i (by omega)
  unfold SmAt
  simp only [Nat.zero_add]
  exact ⟨(h.cellAt (i * 7) (by omega)).trans v0, (h.cellAt (i * 7 + 1) (by omega)).trans v1, (h.cellAt (i * 7 + 2) (by omega)).trans v2, (h.cellAt (i * 7 + 3) (by omega)).trans v3, (h.cellAt (i * 7 + 4) (by omega)).trans v4, (h.cellAt (i * 7 + 5) (by omega)).trans v5, (h.cellAt (i * 7 + 6) (by omega)).trans v6⟩
theorem holdsK_blocks {w w' : World} {a : Option Addr} {n : Nat} {ks : List KV} (h : HoldsK w a n ks) (hb : ∀ b o, a = some ⟨b, o, none⟩ → w'.heap[b]? = w.heap[b]?) : HoldsK w' a n ks := by
  refine ⟨h.1, fun h0 => ?_⟩
  obtain ⟨b, o, ha, hc⟩ := h.2 h0
  refine ⟨b, o, ha, fun i hi => ?_⟩
  exact ⟨(World.cell?_of_block (w := w) (hb b o ha)).trans (hc i hi).1, (World.cell?_of_block (w := w) (hb b o ha)).trans (hc i hi).2⟩
theorem mowns_block0 {w w' : World} {base : Nat} {e : TypeId} {size : Nat} {a : Option Addr} {n c : Nat} {xs : List Value} (h : w.ownsRow base e size (.slice a n c) n xs) (hb : ∀ g, a = some ⟨g, 0, none⟩ → w'.heap[g]? = w.heap[g]?) : w'.ownsRow base e size (.slice a n c) n xs := by
  refine ⟨h.1, ?_⟩
  rcases h.2 with h1 | ⟨g, cap, cur, hv, hge, hh, r⟩
  · exact Or.inl h1
  · have hv' := hv
    simp only [Value.slice.injEq] at hv'
    exact Or.inr ⟨g, cap, cur, hv, hge, (hb g hv'.1).trans hh, r⟩
theorem mownb {a : Option Addr} {n c k : Nat} {w : World} {xs : List Value} {e : TypeId} {base size : Nat} (h : w.ownsRow base e size (.slice a n c) n xs) (hk : some k = (Value.slice a n c).ownBlock) : a = some ⟨k, 0, none⟩ := by
  rcases Joins.ownsRow_forms h with ⟨e1, _⟩ | ⟨g, cap, e1⟩
  · injection e1 with e2; subst e2; cases hk
  · injection e1 with e2; subst e2; injection hk with hk; rw [hk]
theorem mheap_far {w : World} {b o k : Nat} {v : Value} (h : k ≠ b) : (w.setCell ⟨b, o, none⟩ v).heap[k]? = w.heap[k]? := Below.heap_setCell _ _ _ _ h
/-- what waits of a shard lies in a block of its own -/
def WtIn (w : World) (S : Nat → Prop) (b : Nat) (ta ra : Option Addr) (x : SM) : Prop := HoldsK w x.wa x.wn x.wait ∧ (x.wa = none → x.wn = 0 ∧ x.wc = 0) ∧ x.wn ≤ x.wc ∧ ∀ fb fo, x.wa = some ⟨fb, fo, none⟩ → S fb ∧ fb ≠ b ∧ ta ≠ some ⟨fb, 0, none⟩ ∧ ra ≠ some ⟨fb, 0, none⟩
/-- block b is a merge: at most so many; T is told; L its shards; its blocks lie in S -/
def MMid (w : World) (b : Nat) (most : Int) (ta : Option Addr) (tc : Nat) (ra : Option Addr) (rc : Nat) (T : List KV) (L : List SM) (S : Nat → Prop) : Prop :=
  w.cell? ⟨b, 0, none⟩ = some (.int .i64 most) ∧ w.cell? ⟨b, 1, none⟩ = some (.slice ta T.length tc) ∧ w.cell? ⟨b, 2, none⟩ = some (.slice ra L.length rc) ∧ (∀ i, w.frozen? ⟨b, i, none⟩ = false) ∧
    w.ownsRow 0 61 2 (.slice ta T.length tc) T.length (keysV T) ∧ w.ownsRow 0 75 7 (.slice ra L.length rc) L.length (smV L) ∧ (∀ x ∈ L, WtIn w S b ta ra x) ∧ S b ∧ (∀ g, ta = some ⟨g, 0, none⟩ → S g ∧ g ≠ b ∧ ra ≠ some ⟨g, 0, none⟩) ∧ (∀ g, ra = some ⟨g, 0, none⟩ → S g ∧ g ≠ b) ∧ ∀ k, S k → k < w.heap.size
def MAt (w : World) (b : Nat) (most : Int) (T : List KV) (L : List SM) (S : Nat → Prop) : Prop := ∃ ta tc ra rc, MMid w b most ta tc ra rc T L S
theorem MMid.blocks {w w' : World} {b : Nat} {most : Int} {ta : Option Addr} {tc : Nat} {ra : Option Addr} {rc : Nat} {T : List KV} {L : List SM} {S : Nat → Prop} (h : MMid w b most ta tc ra rc T L S) (hs : w.heap.size ≤ w'.heap.size) (hb : ∀ k, S k → w'.heap[k]? = w.heap[k]?) : MMid w' b most ta tc ra rc T L S := by
  obtain ⟨h1, h2, h3, h4, h5, h6, h7, h8, h9, h10, h11⟩ := h
  have eb := hb b h8
  exact ⟨(World.cell?_of_block (w := w) eb).trans h1, (World.cell?_of_block (w := w) eb).trans h2, (World.cell?_of_block (w := w) eb).trans h3, fun i => (World.frozen?_of_block (w := w) eb).trans (h4 i), mowns_block0 h5 (fun g hg => hb g (h9 g hg).1), mowns_block0 h6 (fun g hg => hb g (h10 g hg).1), fun x hx => ⟨holdsK_blocks (h7 x hx).1 (fun fb fo e => hb fb ((h7 x hx).2.2.2 fb fo e).1), (h7 x hx).2⟩, h8, h9, h10, fun k hk => Nat.lt_of_lt_of_le (h11 k hk) hs⟩
theorem MAt.blocks {w w' : World} {b : Nat} {most : Int} {T : List KV} {L : List SM} {S : Nat → Prop} (h : MAt w b most T L S) (hs : w.heap.size ≤ w'.heap.size) (hb : ∀ k, S k → w'.heap[k]? = w.heap[k]?) : MAt w' b most T L S := by
  obtain ⟨ta, tc, ra, rc, h⟩ := h
  exact ⟨ta, tc, ra, rc, h.blocks hs hb⟩
theorem MAt.lt {w : World} {b : Nat} {most : Int} {T : List KV} {L : List SM} {S : Nat → Prop} (h : MAt w b most T L S) : ∀ k, S k → k < w.heap.size := by obtain ⟨ta, tc, ra, rc, h1, h2, h3, h4, h5, h6, h7, h8, h9, h10, h11⟩ := h; exact h11
theorem MAt.turn {w w' : World} {b : Nat} {most : Int} {T : List KV} {L : List SM} {S F : Nat → Prop} (h : MAt w b most T L S) (t : Turn F w w') (hF : ∀ k, S k → ¬ F k) : MAt w' b most T L S :=
  h.blocks t.size fun k hk => t.block k (h.lt k hk) (hF k hk)
theorem MAt.below {w w' : World} {b : Nat} {most : Int} {T : List KV} {L : List SM} {S : Nat → Prop} (h : MAt w b most T L S) (t : Below w.heap.size w w') : MAt w' b most T L S :=
  h.blocks t.size fun k hk => t.block k (h.lt k hk)
theorem mturn_set {F : Nat → Prop} {w w1 : World} {b o : Nat} {v : Value} (h : Turn F w w1) (hb : F b) : Turn F w (w1.setCell ⟨b, o, none⟩ v) := h.trans (Turn.setCell hb)
theorem own_block {w : World} {base fb fo : Nat} {e : TypeId} {size : Nat} {a : Option Addr} {n c : Nat} {xs : List Value} (h : w.ownsRow base e size (.slice a n c) n xs) (ha : a = some ⟨fb, fo, none⟩) : base ≤ fb ∧ fb < w.heap.size := by
  rcases Joins.ownsRow_forms h with ⟨e1, _⟩ | ⟨g, cap, e1⟩
  · injection e1 with e2; rw [ha] at e2; cases e2
  · injection e1 with e2; rw [ha] at e2; injection e2 with e2; injection e2 with e2 e3; subst e2; subst e3; rw [ha] at h; exact h.lt _ rfl
theorem mem_sm {L : List SM} {i : Nat} (h : i < L.length) : L.getD i sm0 ∈ L := by rw [List.getD_eq_getElem?_getD, List.getElem?_eq_getElem h]; simp
end Go.Proofs.Ytgghbgmeebihbaa
namespace Go.Proofs.Ytgghbgmeebihbaa
open Go.RowKit
set_option linter.unusedVariables false
set_option maxRecDepth 20000
theorem mless_lit (a b : KV) (c : Bool) (w : World) (h : lessK a b = c) :
    Calls Try.prog 34 #[.agg #[.int .i64 a.1, .string a.2], .agg #[.int .i64 b.1, .string b.2]] w fun e w' => e = .returned (.bool c) ∧ Below w.heap.size w w' := iless_lit a b c w h
theorem wantsM_any (pb o : Nat) (x : SM) (z : Bool) (w : World) (h : SmAt w pb o x) (hz : (!x.ended && decide (x.wn = 0)) = z) :
    Calls Try.prog 40 #[.pointer (some ⟨pb, o, none⟩)] w fun e w' => e = .returned (.bool z) ∧ w = w' := by
  obtain ⟨c0, c1, c2, c3, c4, c5, c6⟩ := h
  cases he : x.ended
  · rw [he] at c1 hz
    have d1 : ((x.wn : Int) == 0) = z := by
      rw [← hz]
      by_cases h0 : x.wn = 0
      · simp [h0]
      · simp [h0]
    clear he hz
    go_enter Try.func40, Try.ntmps40
    go_wp2_with fail
    go_ret
    exact ⟨rfl, rfl⟩
  · rw [he] at c1 hz
    obtain rfl : z = false := hz.symm
    clear he hz
    go_enter Try.func40, Try.ntmps40
    go_wp2_with fail
    go_ret
    exact ⟨rfl, rfl⟩
theorem done1_any (x : SM) (z : Bool) (w : World) (hz : (!x.ended || decide (0 < x.wn)) = z) :
    Calls Try.prog 58 #[.agg #[.int .i64 x.least, .bool x.ended, .int .i64 x.seq, .bool x.rcv, .int .i64 x.last.1, .string x.last.2, .slice x.wa x.wn x.wc]] w fun e w' => e = .returned (.bool z) ∧ Below w.heap.size w w' := by
  rcases x with ⟨xl, xe, xs, xr, xk, xa, xn, xc, xw⟩
  dsimp only at hz ⊢
  cases xe
  · have BX := Lib.hid (below_one w (.cells #[.int .i64 xl, .bool false, .int .i64 xs, .bool xr, .int .i64 xk.1, .string xk.2, .slice xa xn xc] 75))
    obtain rfl : z = true := by rw [← hz]; simp
    clear hz
    go_enter Try.func58, Try.ntmps58
    go_wp2_with fail
    go_ret
    exact ⟨rfl, BX.out⟩
  · have BX := Lib.hid (below_one w (.cells #[.int .i64 xl, .bool true, .int .i64 xs, .bool xr, .int .i64 xk.1, .string xk.2, .slice xa xn xc] 75))
    have d1 : decide (0 < xn) = z := by rw [← hz]; simp
    have d2 : decide ((xn : Int) > 0) = z := by rw [← d1]; simp
    clear hz
    go_enter Try.func58, Try.ntmps58
    go_wp2_with fail
    go_ret
    exact ⟨rfl, BX.out⟩
def mayS (k : KV) (x : SM) : Bool := if x.rcv then lessK x.last k else decide (k.1 ≥ x.least)
def C4 (pb o q : Nat) (x : SM) (k : KV) (w : World) : Prop := w.cell? ⟨pb, o + 4, none⟩ = some (.int .i64 x.last.1) ∧ w.cell? ⟨pb, o + 5, none⟩ = some (.string x.last.2) ∧ w.cell? ⟨q, 0, none⟩ = some (.int .i64 k.1) ∧ w.cell? ⟨q, 1, none⟩ = some (.string k.2)
theorem C4.below {pb o q : Nat} {x : SM} {k : KV} {w w' : World} (h : C4 pb o q x k w) (hb : Below w.heap.size w w') : C4 pb o q x k w' :=
  ⟨(hb.cell (p := ⟨pb, o + 4, none⟩) (lt_of_cell h.1)).trans h.1, (hb.cell (p := ⟨pb, o + 5, none⟩) (lt_of_cell h.1)).trans h.2.1, (hb.cell (p := ⟨q, 0, none⟩) (lt_of_cell h.2.2.1)).trans h.2.2.1, (hb.cell (p := ⟨q, 1, none⟩) (lt_of_cell h.2.2.1)).trans h.2.2.2⟩
theorem c4b_carry {pb o q : Nat} {x : SM} {k : KV} {w1 w w' : World} (h : C4 pb o q x k w ∧ Below w1.heap.size w1 w) (hb : Below w.heap.size w w') : C4 pb o q x k w' ∧ Below w1.heap.size w1 w' := ⟨h.1.below hb, h.2.trans (hb.mono h.2.size)⟩
set_option maxHeartbeats 1600000 in
theorem smay_any (pb o : Nat) (x : SM) (k : KV) (z : Bool) (w : World) (h : SmAt w pb o x) (hz : mayS k x = z) :
    Calls Try.prog 61 #[.pointer (some ⟨pb, o, none⟩), .agg #[.int .i64 k.1, .string k.2]] w fun e w' => e = .returned (.bool z) ∧ Below w.heap.size w w' := by
  have BX := Lib.hid (below_one w (.cells #[.int .i64 k.1, .string k.2] 61))
  have hb := h.below BX.out
  have q0 : (w.alloc (.cells #[.int .i64 k.1, .string k.2] 61)).cell? ⟨w.heap.size, 0, none⟩ = some (.int .i64 k.1) := by rw [World.cell?_alloc_mark]; rfl
  have q1 : (w.alloc (.cells #[.int .i64 k.1, .string k.2] 61)).cell? ⟨w.heap.size, 1, none⟩ = some (.string k.2) := by rw [World.cell?_alloc_mark]; rfl
  have S4 := Lib.hid (show C4 pb o w.heap.size x k (w.alloc (.cells #[.int .i64 k.1, .string k.2] 61)) from ⟨hb.2.2.2.2.1, hb.2.2.2.2.2.1, q0, q1⟩)
  obtain ⟨c0, c1, c2, c3, c4, c5, c6⟩ := hb
  have K0 := Lib.hid c0
  clear h q0 q1 c1 c2 c4 c5 c6
  unfold mayS at hz
  cases hr : x.rcv
  · rw [hr] at c3 hz
    have d1 : decide (k.1 ≥ x.least) = z := by simpa using hz
    clear hr hz
    go_enter Try.func61, Try.ntmps61
    go_upto_region 1 with fail
    generalize w.alloc (.cells #[.int .i64 k.1, .string k.2] 61) = w1 at *
    obtain ⟨q, hq⟩ : ∃ q, w.heap.size = q := ⟨_, rfl⟩
    rw [hq] at S4
    rw [hq]
    have q0 := S4.out.2.2.1
    clear hq
    go_wp2_with fail
    go_quiet (fail)
    go_wp2_with fail
    go_ret
    exact ⟨rfl, BX.out.trans ((below_drewN w1 _).mono BX.out.size)⟩
  · rw [hr] at c3 hz
    have d1 : lessK x.last k = z := by simpa using hz
    have CL := Lib.hid (fun w' => mless_lit x.last k z w' d1)
    clear hr hz d1
    go_enter Try.func61, Try.ntmps61
    go_upto_region 1 with fail
    generalize w.alloc (.cells #[.int .i64 k.1, .string k.2] 61) = w1 at *
    obtain ⟨q, hq⟩ : ∃ q, w.heap.size = q := ⟨_, rfl⟩
    rw [hq] at S4
    rw [hq]
    have q0 := S4.out.2.2.1
    have hql := lt_of_cell q0
    clear hq
    go_upto_region 2 with fail
    go_region_held3 (fun w' => (w'.cell? ⟨pb, o + 4, none⟩ = some (.int .i64 x.last.1) ∧ w'.cell? ⟨pb, o + 5, none⟩ = some (.string x.last.2) ∧ w'.cell? ⟨q, 0, none⟩ = some (.int .i64 k.1) ∧ w'.cell? ⟨q, 1, none⟩ = some (.string k.2)) ∧ Below w1.heap.size w1 w')
      (first | assumption | exact ⟨S4.out, (Below.refl _ _).drew⟩ | exact c4b_carry (by assumption) (by assumption))
      (first
        | (go_at_call 34; (with_reducible refine (CL.out _).mono ?_); rintro e w' ⟨rfl, hb9⟩))
    all_goals
      rename_i S5
      have BE := Lib.hid (BX.out.trans (S5.2.mono BX.out.size))
      clear S5
      go_wp2_with fail
      go_ret
      exact ⟨rfl, BE.out⟩
def prM (k : KV) (x : SM) : Bool := (!x.ended && decide (x.wn = 0)) && mayS k x
set_option maxHeartbeats 1600000 in
theorem may1_any (B : Nat) (k : KV) (x : SM) (z : Bool) (w : World) (h0 : w.cell? ⟨B, 0, none⟩ = some (.int .i64 k.1)) (h1 : w.cell? ⟨B, 1, none⟩ = some (.string k.2)) (hz : prM k x = z) :
    Calls Try.prog 60 #[.agg #[.int .i64 x.least, .bool x.ended, .int .i64 x.seq, .bool x.rcv, .int .i64 x.last.1, .string x.last.2, .slice x.wa x.wn x.wc], .pointer (some ⟨B, 0, none⟩)] w fun e w' => e = .returned (.bool z) ∧ Below w.heap.size w w' := by
  have BX := Lib.hid (below_one w (.cells #[.int .i64 x.least, .bool x.ended, .int .i64 x.seq, .bool x.rcv, .int .i64 x.last.1, .string x.last.2, .slice x.wa x.wn x.wc] 75))
  have SM1 := Lib.hid (smAt_new w x w.heap.size 75 (0, 0) rfl)
  have g0 := (BX.out.cell (p := ⟨B, 0, none⟩) (lt_of_cell h0)).trans h0
  have g1 := (BX.out.cell (p := ⟨B, 1, none⟩) (lt_of_cell h0)).trans h1
  obtain ⟨za, ha⟩ : ∃ za, (!x.ended && decide (x.wn = 0)) = za := ⟨_, rfl⟩
  obtain ⟨zb, hb⟩ : ∃ zb, mayS k x = zb := ⟨_, rfl⟩
  unfold prM at hz
  rw [ha, hb] at hz
  have CW := Lib.hid (wantsM_any w.heap.size 0 x za _ SM1.out ha)
  have CM := Lib.hid (smay_any w.heap.size 0 x k zb _ SM1.out hb)
  have HZ := Lib.hid hz
  clear h0 h1 ha hb hz
  go_enter Try.func60, Try.ntmps60
  go_wp2_with fail
  refine CW.out.mono ?_
  rintro e w' ⟨rfl, rfl⟩
  cases za
  · go_wp2_with fail
    go_ret
    exact ⟨by rw [← HZ.out]; rfl, BX.out⟩
  · go_wp2_with fail
    refine CM.out.mono ?_
    rintro e w2 ⟨rfl, hb2⟩
    have B2 := Lib.hid (BX.out.trans (hb2.mono BX.out.size))
    clear hb2
    go_wp2_with fail
    go_ret
    exact ⟨by rw [← HZ.out]; rfl, B2.out⟩
def IdxPD (w : World) (L : List SM) (pr : SM → Bool) (e : Ending) (w' : World) : Prop := ∃ r : Int, e = .returned (.int .i64 r) ∧ decide (r ≥ 0) = L.any pr ∧ Below w.heap.size w w'
set_option maxHeartbeats 1600000 in
theorem sindexD_any (a : Option Addr) (n cap : Nat) (L : List SM) (w : World) (hh : HoldsS w a n L) (hn : n ≤ 1000) :
    Calls Try.prog 70 #[.slice a n cap, .func (.func 58) #[] #[]] w (IdxPD w L (fun y => !y.ended || decide (0 < y.wn))) := by
  have hl := hh.1
  have HH := Lib.hid hh
  clear hh
  go_enter Try.func70, Try.ntmps70
  go_wp2_with fail
  go_loopw [8] (fun iv wr => ∃ j : Nat, j ≤ n ∧ iv = .int .i64 j ∧ Hid (∀ y ∈ L.take j, (fun y => !y.ended || decide (0 < y.wn)) y = false) ∧ Hid (Below w.heap.size w wr)) (fun iv _ => n - (intOf iv).toNat)
  case atStart => exact ⟨0, by omega, rfl, Lib.hid (by simp), Lib.hid (Below.refl _ _)⟩
  case round =>
    obtain ⟨j, hj, rfl, hS, hB⟩ := hrel
    by_cases hlt : j < n
    · obtain ⟨b, o, rfl, hc⟩ := (HH.out.below hB.out).2 (by omega)
      have hx7 := hc j hlt
      obtain ⟨x, hx⟩ : ∃ x, L.getD j sm0 = x := ⟨_, rfl⟩
      have HX := Lib.hid hx
      have TK := Lib.hid (show L.take (j + 1) = L.take j ++ [x] from by rw [List.take_add_one, List.getElem?_eq_getElem (by omega), ← hx, List.getD_eq_getElem?_getD, List.getElem?_eq_getElem (by omega)]; rfl)
      have MX := Lib.hid (show x ∈ L from hx ▸ mem_sm (by omega))
      rw [hx] at hx7
      obtain ⟨c0, c1, c2, c3, c4, c5, c6⟩ := hx7
      clear hc hx
      obtain ⟨z, hz⟩ : ∃ z, (fun y => !y.ended || decide (0 < y.wn)) x = z := ⟨_, rfl⟩
      have HZ := Lib.hid hz
      have CL := Lib.hid (done1_any x z wr hz)
      clear hz
      go_wp2_with fail
      refine CL.out.mono ?_
      rintro e w2 ⟨rfl, hb2⟩
      have B2 := Lib.hid (hB.out.trans (hb2.mono hB.out.size))
      clear hb2 CL c0 c1 c2 c3 c4 c5 c6
      cases z
      · have S2 := Lib.hid (show ∀ y ∈ L.take (j + 1), (fun y => !y.ended || decide (0 < y.wn)) y = false from by
          rw [TK.out]; intro y hy
          rcases List.mem_append.1 hy with hy | hy
          · exact hS.out y hy
          · simp only [List.mem_singleton] at hy; rw [hy]; exact HZ.out)
        go_wp2_with fail
        go_roundw
        case rel => exact ⟨j + 1, by omega, by go_num, S2, B2⟩
        case measure => simp [intOf]; omega
      · have AN := Lib.hid (show L.any (fun y => !y.ended || decide (0 < y.wn)) = true from List.any_eq_true.2 ⟨x, MX.out, HZ.out⟩)
        go_wp2_with fail
        go_ret
        exact ⟨(j : Int), rfl, by rw [AN.out]; exact decide_eq_true (by omega), B2.out⟩
    · have hjn : L.take j = L := List.take_of_length_le (by omega)
      have hS2 := hS.out
      rw [hjn] at hS2
      have AN := Lib.hid (show L.any (fun y => !y.ended || decide (0 < y.wn)) = false from by
        rw [List.any_eq_false]; intro y hy; simpa using hS2 y hy)
      clear hjn hS2
      go_wp2_with fail
      go_ret
      exact ⟨-1, rfl, by rw [AN.out]; rfl, hB.out⟩
theorem containsD_any (a : Option Addr) (n cap : Nat) (L : List SM) (z : Bool) (w : World) (hh : HoldsS w a n L) (hn : n ≤ 1000) (hz : L.any (fun y => !y.ended || decide (0 < y.wn)) = z) :
    Calls Try.prog 57 #[.slice a n cap, .func (.func 58) #[] #[]] w fun e w' => e = .returned (.bool z) ∧ Below w.heap.size w w' := by
  have CI := Lib.hid (sindexD_any a n cap L w hh hn)
  have HZ := Lib.hid hz
  clear hh hz
  go_enter Try.func57, Try.ntmps57
  go_wp2_with fail
  refine CI.out.mono ?_
  rintro e w2 ⟨r, rfl, hr, hb⟩
  rw [HZ.out] at hr
  have B2 := Lib.hid hb
  clear hb
  go_wp2_with fail
  go_ret
  exact ⟨rfl, B2.out⟩
def IdxPM (w : World) (L : List SM) (pr : SM → Bool) (e : Ending) (w' : World) : Prop := ∃ r : Int, e = .returned (.int .i64 r) ∧ decide (r ≥ 0) = L.any pr ∧ Below w.heap.size w w'
set_option maxHeartbeats 1600000 in
theorem sindexM_any (a : Option Addr) (n cap : Nat) (L : List SM) (B : Nat) (k : KV) (w : World) (hh : HoldsS w a n L) (hn : n ≤ 1000) (h0 : w.cell? ⟨B, 0, none⟩ = some (.int .i64 k.1)) (h1 : w.cell? ⟨B, 1, none⟩ = some (.string k.2)) :
    Calls Try.prog 70 #[.slice a n cap, .func (.func 60) #[] #[.pointer (some ⟨B, 0, none⟩)]] w (IdxPM w L (prM k)) := by
  have hl := hh.1
  have HH := Lib.hid hh
  have BK := Lib.hid (fun (w3 : World) (hb : Below w.heap.size w w3) => show w3.cell? ⟨B, 0, none⟩ = some (.int .i64 k.1) ∧ w3.cell? ⟨B, 1, none⟩ = some (.string k.2) from ⟨(hb.cell (p := ⟨B, 0, none⟩) (lt_of_cell h0)).trans h0, (hb.cell (p := ⟨B, 1, none⟩) (lt_of_cell h1)).trans h1⟩)
  clear hh h0 h1
  go_enter Try.func70, Try.ntmps70
  go_wp2_with fail
  go_loopw [8] (fun iv wr => ∃ j : Nat, j ≤ n ∧ iv = .int .i64 j ∧ Hid (∀ y ∈ L.take j, (prM k) y = false) ∧ Hid (Below w.heap.size w wr)) (fun iv _ => n - (intOf iv).toNat)
  case atStart => exact ⟨0, by omega, rfl, Lib.hid (by simp), Lib.hid (Below.refl _ _)⟩
  case round =>
    obtain ⟨j, hj, rfl, hS, hB⟩ := hrel
    by_cases hlt : j < n
    · obtain ⟨b, o, rfl, hc⟩ := (HH.out.below hB.out).2 (by omega)
      have hx7 := hc j hlt
      obtain ⟨x, hx⟩ : ∃ x, L.getD j sm0 = x := ⟨_, rfl⟩
      have HX := Lib.hid hx
      have TK := Lib.hid (show L.take (j + 1) = L.take j ++ [x] from by rw [List.take_add_one, List.getElem?_eq_getElem (by omega), ← hx, List.getD_eq_getElem?_getD, List.getElem?_eq_getElem (by omega)]; rfl)
      have MX := Lib.hid (show x ∈ L from hx ▸ mem_sm (by omega))
      rw [hx] at hx7
      obtain ⟨c0, c1, c2, c3, c4, c5, c6⟩ := hx7
      clear hc hx
      obtain ⟨z, hz⟩ : ∃ z, (prM k) x = z := ⟨_, rfl⟩
      have HZ := Lib.hid hz
      have CL := Lib.hid (may1_any B k x z wr (BK.out _ hB.out).1 (BK.out _ hB.out).2 hz)
      clear hz
      go_wp2_with fail
      refine CL.out.mono ?_
      rintro e w2 ⟨rfl, hb2⟩
      have B2 := Lib.hid (hB.out.trans (hb2.mono hB.out.size))
      clear hb2 CL c0 c1 c2 c3 c4 c5 c6
      cases z
      · have S2 := Lib.hid (show ∀ y ∈ L.take (j + 1), (prM k) y = false from by
          rw [TK.out]; intro y hy
          rcases List.mem_append.1 hy with hy | hy
          · exact hS.out y hy
          · simp only [List.mem_singleton] at hy; rw [hy]; exact HZ.out)
        go_wp2_with fail
        go_roundw
        case rel => exact ⟨j + 1, by omega, by go_num, S2, B2⟩
        case measure => simp [intOf]; omega
      · have AN := Lib.hid (show L.any (prM k) = true from List.any_eq_true.2 ⟨x, MX.out, HZ.out⟩)
        go_wp2_with fail
        go_ret
        exact ⟨(j : Int), rfl, by rw [AN.out]; exact decide_eq_true (by omega), B2.out⟩
    · have hjn : L.take j = L := List.take_of_length_le (by omega)
      have hS2 := hS.out
      rw [hjn] at hS2
      have AN := Lib.hid (show L.any (prM k) = false from by
        rw [List.any_eq_false]; intro y hy; simpa using hS2 y hy)
      clear hjn hS2
      go_wp2_with fail
      go_ret
      exact ⟨-1, rfl, by rw [AN.out]; rfl, hB.out⟩
theorem containsM_any (a : Option Addr) (n cap : Nat) (L : List SM) (B : Nat) (k : KV) (z : Bool) (w : World) (hh : HoldsS w a n L) (hn : n ≤ 1000) (h0 : w.cell? ⟨B, 0, none⟩ = some (.int .i64 k.1)) (h1 : w.cell? ⟨B, 1, none⟩ = some (.string k.2)) (hz : L.any (prM k) = z) :
    Calls Try.prog 57 #[.slice a n cap, .func (.func 60) #[] #[.pointer (some ⟨B, 0, none⟩)]] w fun e w' => e = .returned (.bool z) ∧ Below w.heap.size w w' := by
  have CI := Lib.hid (sindexM_any a n cap L B k w hh hn h0 h1)
  have HZ := Lib.hid hz
  clear hh h0 h1 hz
  go_enter Try.func57, Try.ntmps57
  go_wp2_with fail
  refine CI.out.mono ?_
  rintro e w2 ⟨r, rfl, hr, hb⟩
  rw [HZ.out] at hr
  have B2 := Lib.hid hb
  clear hb
  go_wp2_with fail
  go_ret
  exact ⟨rfl, B2.out⟩
end Go.Proofs.Ytgghbgmeebihbaa
namespace Go.Proofs.Ytgghbgmeebihbaa
open Go.RowKit
set_option linter.unusedVariables false
set_option maxRecDepth 20000
theorem msp_lit (n lo hi : Int) (c : Bool) (w : World) (h : decide (lo ≤ n ∧ n ≤ hi) = c) :
    Calls Try.prog 38 #[.int .i64 n, .int .i64 lo, .int .i64 hi] w fun e w' => e = .returned (.bool c) ∧ w = w' := by
  subst h
  go_enter Try.func38, Try.ntmps38
  go_wp2
  all_goals (go_ret; exact ⟨ret_bool (by simp; try omega), rfl⟩)
theorem mhas_any (s : Int) (z : Bool) (b : Nat) {most : Int} {T : List KV} {L : List SM} {S : Nat → Prop} (w : World) (h : MAt w b most T L S) (hl : L.length ≤ 1000) (hz : decide (0 ≤ s ∧ s < (L.length : Int)) = z) :
    Calls Try.prog 39 #[.pointer (some ⟨b, 0, none⟩), .int .i64 s] w fun e w' => e = .returned (.bool z) ∧ w = w' := by
  obtain ⟨ta, tc, ra, rc, -, -, k2, -⟩ := h
  have hw : IntKind.i64.wrap ((L.length : Int) - 1) = (L.length : Int) - 1 := IntWalk.i64_in _ (by omega)
  have CI := Lib.hid (msp_lit s 0 ((L.length : Int) - 1) z w (by rw [← hz]; congr 1; apply propext; omega))
  clear hz
  go_enter Try.func39, Try.ntmps39
  go_wp2_with fail
  refine CI.out.mono ?_
  rintro e w' ⟨rfl, rfl⟩
  go_wp2_with fail
  go_ret
  exact ⟨rfl, rfl⟩
def doneB (most : Int) (T : List KV) (L : List SM) : Bool := decide (most ≤ (T.length : Int)) || !(L.any fun y => !y.ended || decide (0 < y.wn))
set_option maxHeartbeats 1600000 in
theorem mdone_any (z : Bool) (b : Nat) {most : Int} {T : List KV} {L : List SM} {S : Nat → Prop} (w : World) (h : MAt w b most T L S) (hl : L.length ≤ 1000) (hz : doneB most T L = z) :
    Calls Try.prog 31 #[.pointer (some ⟨b, 0, none⟩)] w fun e w' => e = .returned (.bool z) ∧ Below w.heap.size w w' := by
  obtain ⟨ta, tc, ra, rc, k0', k1, k2, -, -, own, -, -, -, -, -⟩ := h
  unfold doneB at hz
  by_cases hf : most ≤ (T.length : Int)
  · have d1 : decide ((T.length : Int) ≥ most) = true := decide_eq_true hf
    obtain rfl : z = true := by rw [← hz, decide_eq_true hf]; rfl
    clear hz hf own
    go_enter Try.func31, Try.ntmps31
    go_wp2_with fail
    go_quiet (fail)
    go_wp2_with fail
    go_ret
    exact ⟨rfl, below_drewN _ _⟩
  · have d1 : decide ((T.length : Int) ≥ most) = false := decide_eq_false hf
    obtain ⟨zc, hzc⟩ : ∃ zc, (L.any fun y => !y.ended || decide (0 < y.wn)) = zc := ⟨_, rfl⟩
    rw [decide_eq_false hf, hzc] at hz
    have HZ := Lib.hid hz
    have CC := Lib.hid (fun m => containsD_any ra L.length rc L zc (w.drewN m) ((holdsS_own own).below (below_drewN w m)) hl hzc)
    clear hz hf own hzc
    go_enter Try.func31, Try.ntmps31
    go_wp2_with fail
    go_quiet (fail)
    go_wp2_with fail
    refine (CC.out _).mono ?_
    rintro e w2 ⟨rfl, hb2⟩
    have B2 := Lib.hid ((below_drewN w nq).trans (hb2.mono (below_drewN w nq).size))
    clear hb2
    go_wp2_with fail
    go_ret
    exact ⟨by rw [← HZ.out]; rfl, B2.out⟩
set_option maxHeartbeats 1600000 in
theorem mmay_any (k : KV) (z : Bool) (b : Nat) {most : Int} {T : List KV} {L : List SM} {S : Nat → Prop} (w : World) (h : MAt w b most T L S) (hl : L.length ≤ 1000) (hz : L.any (prM k) = z) :
    Calls Try.prog 47 #[.pointer (some ⟨b, 0, none⟩), .agg #[.int .i64 k.1, .string k.2]] w fun e w' => e = .returned (.bool z) ∧ Below w.heap.size w w' := by
  have BX := Lib.hid (below_one w (.cells #[.int .i64 k.1, .string k.2] 61))
  have q0 : (w.alloc (.cells #[.int .i64 k.1, .string k.2] 61)).cell? ⟨w.heap.size, 0, none⟩ = some (.int .i64 k.1) := by rw [World.cell?_alloc_mark]; rfl
  have q1 : (w.alloc (.cells #[.int .i64 k.1, .string k.2] 61)).cell? ⟨w.heap.size, 1, none⟩ = some (.string k.2) := by rw [World.cell?_alloc_mark]; rfl
  obtain ⟨ta, tc, ra, rc, k0', k1, k2, -, -, own, -, -, -, -, -⟩ := h.below BX.out
  have CC := Lib.hid (containsM_any ra L.length rc L w.heap.size k z _ (holdsS_own own) hl q0 q1 hz)
  clear hz own q0 q1 k0' k1 h
  go_enter Try.func47, Try.ntmps47
  go_wp2_with fail
  refine CC.out.mono ?_
  rintro e w2 ⟨rfl, hb2⟩
  have B2 := Lib.hid (BX.out.trans (hb2.mono BX.out.size))
  clear hb2
  go_wp2_with fail
  go_ret
  exact ⟨rfl, B2.out⟩
def seqS (L : List SM) (s : Int) : Int := if 0 ≤ s ∧ s < (L.length : Int) then (L.getD s.toNat sm0).seq else 0
theorem mseq_any (s v : Int) (b : Nat) {most : Int} {T : List KV} {L : List SM} {S : Nat → Prop} (w : World) (h : MAt w b most T L S) (hl : L.length ≤ 1000) (hv : seqS L s = v) :
    Calls Try.prog 30 #[.pointer (some ⟨b, 0, none⟩), .int .i64 s] w fun e w' => e = .returned (.int .i64 v) ∧ w = w' := by
  unfold seqS at hv
  by_cases hs : 0 ≤ s ∧ s < (L.length : Int)
  · have CH := Lib.hid (mhas_any s true b w h hl (decide_eq_true hs))
    rw [if_pos hs] at hv
    obtain ⟨i, rfl⟩ : ∃ i : Nat, s = (i : Int) := ⟨s.toNat, by omega⟩
    have hi : i < L.length := by omega
    obtain ⟨ta, tc, ra, rc, k0', k1, k2, -, -, own, -, -, -, -, -⟩ := h
    obtain ⟨bb, o, rfl, hc⟩ := (holdsS_own own).2 (by omega)
    have c2 := (hc i hi).2.2.1
    rw [Int.toNat_natCast] at hv
    rw [hv] at c2
    have i1 : (0 : Int) ≤ (i : Int) := by omega
    have i2 : (i : Int) < (L.length : Int) := by omega
    clear hv hs own hc
    go_enter Try.func30, Try.ntmps30
    go_wp2_with fail
    refine CH.out.mono ?_
    rintro e w' ⟨rfl, rfl⟩
    go_wp2_with fail
    go_ret
    exact ⟨rfl, rfl⟩
  · have CH := Lib.hid (mhas_any s false b w h hl (decide_eq_false hs))
    rw [if_neg hs] at hv
    subst hv
    clear hs h
    go_enter Try.func30, Try.ntmps30
    go_wp2_with fail
    refine CH.out.mono ?_
    rintro e w' ⟨rfl, rfl⟩
    go_wp2_with fail
    go_ret
    exact ⟨rfl, rfl⟩
theorem mtold_any (b : Nat) {most : Int} {T : List KV} {L : List SM} {S : Nat → Prop} (w : World) (h : MAt w b most T L S) (hl : T.length ≤ 50000) :
    Calls Try.prog 32 #[.pointer (some ⟨b, 0, none⟩)] w (RetI w T) := by
  obtain ⟨ta, tc, ra, rc, k0', k1, k2, -, own, -⟩ := h
  have hK := HoldsK.own own
  have CC := Lib.hid (cloneI_any ta T.length tc T w hK (owns_none own).1 hl)
  clear own hK
  go_enter Try.func32, Try.ntmps32
  go_wp2_with fail
  refine CC.out.mono ?_
  rintro e w' ⟨a, c, rfl, ho, hb⟩
  go_wp2_with fail
  go_ret
  exact ⟨a, c, rfl, ho, hb⟩
end Go.Proofs.Ytgghbgmeebihbaa
namespace Go.Proofs.Ytgghbgmeebihbaa
open Go.RowKit
set_option linter.unusedVariables false
set_option maxRecDepth 20000
def numsV (zs : List Int) : List Value := zs.map (Value.int .i64)
theorem holdsI_values {k : IntKind} {w : World} {a : Option Addr} {n : Nat} {zs : List Int} (h : HoldsV w a n (zs.map (Value.int k))) : HoldsI k w a n zs := by
  have hl : zs.length = n := by simpa using h.1
  refine ⟨hl, fun h0 => ?_⟩
  obtain ⟨b, o, ha, hc⟩ := h.2 h0
  exact ⟨b, o, ha, fun i hi => by rw [hc i hi]; simp [List.getD_eq_getElem?_getD, show i < zs.length by omega]⟩
theorem num_info : (Try.prog.info? 3).map (fun i => (i.zero, i.size, i.bytes)) = some (some (.int .i64 0), 1, 8) := by kernel_rfl
/-- a call's answer: a new list of numbers -/
def RetZ (w : World) (zs : List Int) (e : Ending) (w' : World) : Prop := ∃ a c, e = .returned (.slice a zs.length c) ∧ w'.ownsRow w.heap.size 3 1 (.slice a zs.length c) zs.length (numsV zs) ∧ Below w.heap.size w w'
theorem holdsZ_own {w : World} {base : Nat} {e : TypeId} {a : Option Addr} {n c : Nat} {zs : List Int} (h : w.ownsRow base e 1 (.slice a n c) n (numsV zs)) : HoldsI .i64 w a n zs := holdsI_values (owns_holds h)
def natsZ (l : List Nat) : List Int := l.map fun s : Nat => (s : Int)
theorem natsZ_len (l : List Nat) : (natsZ l).length = l.length := by simp [natsZ]
end Go.Proofs.Ytgghbgmeebihbaa
namespace Go.Proofs.Ytgghbgmeebihbaa
open Go.RowKit
set_option linter.unusedVariables false
set_option maxRecDepth 20000
theorem sm_info : (Try.prog.info? 75).map (fun i => (i.zero, i.size, i.bytes)) = some (some (.agg #[.int .i64 0, .bool false, .int .i64 0, .bool false, .int .i64 0, .string ⟨#[]⟩, .slice none 0 0]), 7, 80) := by kernel_rfl
theorem row_new (w : World) (cs : Array Value) (e : TypeId) (fr : Nat × Nat) : ∀ ad, (some ⟨w.heap.size, 0, none⟩ : Option Addr) = some ad → ∀ j u, cs.toList[j]? = some u → (w.alloc (.cells cs e fr)).cell? (ad.add j) = some u := by
  intro ad had j u hu
  injection had with had
  subst had
  rw [Go.WideShapes.add_plain, Nat.zero_add, World.cell?_alloc_mark]
  simpa using hu
def mkS (d : Int) : SM := ⟨d, decide (d < 0), 0, false, k0, none, 0, 0, []⟩
/-- the object while it is made -/
def NewAt (w0 w : World) (b : Nat) (m : Int) (ra : Option Addr) (rc : Nat) (L : List SM) : Prop :=
  w.cell? ⟨b, 0, none⟩ = some (.int .i64 m) ∧ w.cell? ⟨b, 1, none⟩ = some (.slice none 0 0) ∧ w.cell? ⟨b, 2, none⟩ = some (.slice ra L.length rc) ∧ (∀ i, w.frozen? ⟨b, i, none⟩ = false) ∧ w.ownsRow (b + 1) 75 7 (.slice ra L.length rc) L.length (smV L) ∧ Below w0.heap.size w0 w
theorem NewAt.mat {w0 w : World} {b : Nat} {m : Int} {ra : Option Addr} {rc : Nat} {L : List SM} (h : NewAt w0 w b m ra rc L) (hb : b = w0.heap.size) (hL : ∀ x ∈ L, x.wa = none ∧ x.wn = 0 ∧ x.wc = 0 ∧ x.wait = []) : MAt w b m [] L (fun k => b ≤ k ∧ k < w.heap.size) := by
  obtain ⟨h1, h2, h3, h4, h5, h6⟩ := h
  have hlt := lt_of_cell h1
  refine ⟨none, 0, ra, rc, h1, h2, h3, h4, World.ownsRow_nil _ _ _ _, ?_, fun x hx => ?_, ⟨Nat.le_refl _, hlt⟩, fun g hg => (by cases hg), fun g hg => ?_, fun k hk => hk.2⟩
  · exact ⟨h5.1, h5.2.imp id (fun ⟨g, cap, cur, hv, hge, r⟩ => ⟨g, cap, cur, hv, Nat.zero_le _, r⟩)⟩
  · obtain ⟨e1, e2, e3, e4⟩ := hL x hx
    rw [WtIn, e1, e2, e3, e4]
    exact ⟨HoldsK.nil _ _, fun _ => ⟨rfl, rfl⟩, Nat.le_refl _, fun fb fo e => (by cases e)⟩
  · have := h5.lt g (by rw [hg]; rfl)
    exact ⟨⟨by omega, this.2⟩, by omega⟩
set_option maxHeartbeats 3200000 in
set_option maxRecDepth 100000 in
theorem mnew_any (a : Option Addr) (n cap : Nat) (zs : List Int) (m : Int) (w : World) (hh : HoldsI .i64 w a n zs) (hn : 1 ≤ n ∧ n ≤ 6) (hm : 1 ≤ m ∧ m ≤ 10) :
    Calls Try.prog 11 #[.slice a n cap, .int .i64 m] w fun e w' => ∃ b S, e = .returned (.tuple #[.pointer (some ⟨b, 0, none⟩), .int .i64 0]) ∧ MAt w' b m [] (zs.map mkS) S ∧ (∀ k, S k → w.heap.size ≤ k) ∧ Below w.heap.size w w' := by
  obtain ⟨i0, hi0, hz0, hz1, hz2⟩ := info_parts sm_info
  have CI := Lib.hid (msp_lit (n : Int) 1 6 true w (decide_eq_true (by omega)))
  have CJ := Lib.hid (msp_lit m 1 10 true w (decide_eq_true hm))
  have H := Lib.hid hh
  have hl := hh.1
  have hn6 := hn.2
  have N0 := Lib.hid (show NewAt w (w.alloc (.cells #[.int .i64 m, .slice none 0 0, .slice none 0 0] 73)) w.heap.size m none 0 [] from ⟨by rw [cell_alloc rfl]; rfl, by rw [cell_alloc rfl]; rfl, by rw [cell_alloc rfl]; rfl, fun i => frozen_alloc rfl, World.ownsRow_nil _ _ _ _, below_one _ _⟩)
  clear hh hn hm
  go_enter Try.func11, Try.ntmps11
  go_wp2_with fail
  refine CI.out.mono ?_
  rintro e w' ⟨rfl, rfl⟩
  go_wp2_with fail
  refine CJ.out.mono ?_
  rintro e w' ⟨rfl, rfl⟩
  clear CI CJ
  go_upto_region 4 with fail
  generalize w.alloc (.cells #[.int .i64 m, .slice none 0 0, .slice none 0 0] 73) = w1 at *
  obtain ⟨b, hb⟩ : ∃ b, w.heap.size = b := ⟨_, rfl⟩
  have HB := Lib.hid hb
  rw [hb] at N0
  rw [hb]
  clear hb
  go_wp2_with fail
  go_loopw [23] (fun iv wr => ∃ (j : Nat) (L : List SM) (ra : Option Addr) (rc : Nat), j ≤ n ∧ L.length = j ∧ iv = .int .i64 j ∧ Hid (L = (zs.take j).map mkS) ∧ Hid (NewAt w wr b m ra rc L)) (fun iv _ => n - (intOf iv).toNat)
  case atStart => exact ⟨0, [], none, 0, by omega, rfl, rfl, Lib.hid rfl, N0⟩
  case round =>
    obtain ⟨j, L, ra, rc, hj, hLl, rfl, hL, hN⟩ := hrel
    by_cases hlt : j < n
    · obtain ⟨k0', k1', k2', fz, own, bel⟩ := hN.out
      obtain ⟨pb, po, rfl, hc⟩ := (H.out.below bel).at (by omega)
      have x0 := hc j hlt
      obtain ⟨d, hd⟩ : ∃ d, zs.getD j 0 = d := ⟨_, rfl⟩
      rw [hd] at x0
      have LS := Lib.hid (show L ++ [mkS d] = (zs.take (j + 1)).map mkS from by
        rw [List.take_add_one, List.getElem?_eq_getElem (by omega), List.map_append, ← hL.out]
        have : zs[j]'(by omega) = d := by rw [← hd, List.getD_eq_getElem?_getD, List.getElem?_eq_getElem (by omega)]; rfl
        simp [this])
      rw [hLl] at k2'
      have OW := Lib.hid own
      have i1 : (0 : Int) ≤ (j : Int) := by omega
      have i2 : (j : Int) < (n : Int) := by omega
      have f2 := fz 2
      have K0 := Lib.hid k0'; have K1 := Lib.hid k1'; have FZ := Lib.hid fz; have BL := Lib.hid bel
      have K2 := Lib.hid k2'
      have hbl := lt_of_cell k0'
      clear hc hd fz own bel k0' k1'
      go_wp2_with (at_builtin; refine wpList_append_any rfl (.tmp 31) (.tmp 36) 71 rfl (b + 1) 75 i0 _ 7 80 Try.underlying71 hi0 hz0 hz1 hz2 rfl (by decide) _ j (smV L) rfl ((hLl ▸ OW.out).alloc _) _ 1 1 [.int .i64 d, .bool (decide (d < 0)), .int .i64 0, .bool false, .int .i64 0, .string ⟨#[]⟩, .slice none 0 0] rfl (some_none _) rfl (row_new _ #[.int .i64 d, .bool (decide (d < 0)), .int .i64 0, .bool false, .int .i64 0, .string ⟨#[]⟩, .slice none 0 0] _ _) (by simp [Value.oneCell']) (by unfold maxLen; omega) (by omega) (by simp; omega) ?_; intro a3 c3 w3 hown3 hb3 hnil3; have hbx := ((Below.refl (b + 1) wr).alloc (by omega) (.cells #[.int .i64 d, .bool (decide (d < 0)), .int .i64 0, .bool false, .int .i64 0, .string ⟨#[]⟩, .slice none 0 0] 75)).trans hb3; have ky := (hbx.cell (p := ⟨b, 2, none⟩) (by show b < b + 1; omega)).trans K2.out; have fy := (hbx.frozen (p := ⟨b, 2, none⟩) (by show b < b + 1; omega)).trans (FZ.out 2))
      have N3 := Lib.hid (show NewAt w (w3.setCell ⟨b, 2, none⟩ (.slice a3 (j + 1) c3)) b m a3 c3 (L ++ [mkS d]) from by
        have cb : ∀ i, w3.cell? ⟨b, i, none⟩ = wr.cell? ⟨b, i, none⟩ := fun i => hbx.cell (p := ⟨b, i, none⟩) (by show b < b + 1; omega)
        have hll : (L ++ [mkS d]).length = j + 1 := by rw [List.length_append, hLl]; rfl
        refine ⟨?_, ?_, ?_, fun i => ?_, ?_, ?_⟩
        · rw [cset_ne (by omega), cb]; exact K0.out
        · rw [cset_ne (by omega), cb]; exact K1.out
        · rw [hll]; exact cset_at ky
        · rw [fset_any]; exact (hbx.frozen (p := ⟨b, i, none⟩) (by show b < b + 1; omega)).trans (FZ.out i)
        · rw [hll, smV_app]
          exact mowns_block0 hown3 (fun g e => mheap_far (by have := (hown3.lt g (by rw [e]; rfl)).1; omega))
        · exact ((BL.out.trans (hbx.mono (by have := HB.out; omega))).setCell (p := ⟨b, 2, none⟩) (by show w.heap.size ≤ b; have := HB.out; omega) _))
      clear hown3 hb3 hnil3 hbx ky fy
      go_roundw
      case rel => exact ⟨j + 1, L ++ [mkS d], a3, c3, by omega, by rw [List.length_append, hLl]; rfl, by go_num, LS, N3⟩
      case measure => simp [intOf] <;> omega
    · obtain rfl : j = n := by omega
      have hL2 : L = zs.map mkS := by rw [hL.out, List.take_of_length_le (by omega)]
      have MM := Lib.hid (hN.out.mat HB.out.symm (fun x hx => by
        rw [hL2] at hx
        obtain ⟨d, _, rfl⟩ := List.mem_map.1 hx
        exact ⟨rfl, rfl, rfl, rfl⟩))
      rw [hL2] at MM
      have BE := Lib.hid hN.out.2.2.2.2.2
      clear hL2 hL hN
      go_wp2_with fail
      refine bodyPost_ret (v := .tuple #[.pointer (some ⟨b, 0, none⟩), .int .i64 0]) (by simp [results, go_sem]) rfl ⟨b, _, rfl, MM.out, fun k hk => by rw [HB.out]; exact hk.1, BE.out⟩
end Go.Proofs.Ytgghbgmeebihbaa
namespace Go.Proofs.Ytgghbgmeebihbaa
open Go.RowKit
set_option linter.unusedVariables false
set_option maxRecDepth 20000
def badS (x : SM) (k : KV) : Bool := decide (k.1 < x.least) || (x.rcv && !lessK x.last k)
def stepB (ks : List KV) (j : Nat) : Bool := decide (0 < j) && !lessK (ks.getD (j - 1) k0) (ks.getD j k0)
def fitN (x : SM) (ks : List KV) : Nat → Bool
  | 0 => true
  | j + 1 => fitN x ks j && (!badS x (ks.getD j k0) && !stepB ks j)
def fitsB (x : SM) (ks : List KV) : Bool := decide (ks.length ≤ 5) && fitN x ks ks.length
theorem fitN_stop {x : SM} {ks : List KV} {j : Nat} (h : fitN x ks (j + 1) = false) : ∀ m, j + 1 ≤ m → fitN x ks m = false
  | 0, hm => by omega
  | m + 1, hm => by
    by_cases e : j + 1 = m + 1
    · rw [← e]; exact h
    · show (fitN x ks m && _) = false
      rw [fitN_stop h m (by omega)]; rfl
def KvAt (w : World) (q : Nat) (k : KV) : Prop := w.cell? ⟨q, 0, none⟩ = some (.int .i64 k.1) ∧ w.cell? ⟨q, 1, none⟩ = some (.string k.2)
theorem KvAt.below {w w' : World} {q : Nat} {k : KV} (h : KvAt w q k) (hb : Below w.heap.size w w') : KvAt w' q k :=
  ⟨(hb.cell (p := ⟨q, 0, none⟩) (lt_of_cell h.1)).trans h.1, (hb.cell (p := ⟨q, 1, none⟩) (lt_of_cell h.1)).trans h.2⟩
theorem kvAt_new (w : World) (k : KV) (q : Nat) (e : TypeId) (hq : q = w.heap.size) : KvAt (w.alloc (.cells #[.int .i64 k.1, .string k.2] e)) q k := by
  subst hq
  exact ⟨by rw [World.cell?_alloc_mark]; rfl, by rw [World.cell?_alloc_mark]; rfl⟩
theorem s6_carry {w1 w w' : World} {p o q : Nat} {x : SM} {k : KV} (h : (SmAt w p o x ∧ KvAt w q k) ∧ Below w1.heap.size w1 w) (hb : Below w.heap.size w w') : (SmAt w' p o x ∧ KvAt w' q k) ∧ Below w1.heap.size w1 w' :=
  ⟨⟨h.1.1.below hb, h.1.2.below hb⟩, h.2.trans (hb.mono h.2.size)⟩
theorem s6r_carry {w1 w w' : World} {p o q : Nat} {x : SM} {k : KV} {z : Bool} (hz : x.rcv = z) (h : ((w.cell? ⟨p, o, none⟩ = some (.int .i64 x.least) ∧ w.cell? ⟨p, o + 1, none⟩ = some (.bool x.ended) ∧ w.cell? ⟨p, o + 2, none⟩ = some (.int .i64 x.seq) ∧ w.cell? ⟨p, o + 3, none⟩ = some (.bool z) ∧ w.cell? ⟨p, o + 4, none⟩ = some (.int .i64 x.last.1) ∧ w.cell? ⟨p, o + 5, none⟩ = some (.string x.last.2) ∧ w.cell? ⟨p, o + 6, none⟩ = some (.slice x.wa x.wn x.wc)) ∧ (w.cell? ⟨q, 0, none⟩ = some (.int .i64 k.1) ∧ w.cell? ⟨q, 1, none⟩ = some (.string k.2))) ∧ Below w1.heap.size w1 w) (hb : Below w.heap.size w w') : ((w'.cell? ⟨p, o, none⟩ = some (.int .i64 x.least) ∧ w'.cell? ⟨p, o + 1, none⟩ = some (.bool x.ended) ∧ w'.cell? ⟨p, o + 2, none⟩ = some (.int .i64 x.seq) ∧ w'.cell? ⟨p, o + 3, none⟩ = some (.bool z) ∧ w'.cell? ⟨p, o + 4, none⟩ = some (.int .i64 x.last.1) ∧ w'.cell? ⟨p, o + 5, none⟩ = some (.string x.last.2) ∧ w'.cell? ⟨p, o + 6, none⟩ = some (.slice x.wa x.wn x.wc)) ∧ (w'.cell? ⟨q, 0, none⟩ = some (.int .i64 k.1) ∧ w'.cell? ⟨q, 1, none⟩ = some (.string k.2))) ∧ Below w1.heap.size w1 w' := by
  subst hz
  exact s6_carry (x := x) (k := k) h hb
theorem s8_carry {w1 w w' : World} {p o q : Nat} {x k : KV} (h : ((w.cell? ⟨p, o, none⟩ = some (.int .i64 x.1) ∧ w.cell? ⟨p, o + 1, none⟩ = some (.string x.2)) ∧ KvAt w q k) ∧ Below w1.heap.size w1 w) (hb : Below w.heap.size w w') : ((w'.cell? ⟨p, o, none⟩ = some (.int .i64 x.1) ∧ w'.cell? ⟨p, o + 1, none⟩ = some (.string x.2)) ∧ KvAt w' q k) ∧ Below w1.heap.size w1 w' :=
  ⟨⟨⟨(hb.cell (p := ⟨p, o, none⟩) (lt_of_cell h.1.1.1)).trans h.1.1.1, (hb.cell (p := ⟨p, o + 1, none⟩) (lt_of_cell h.1.1.1)).trans h.1.1.2⟩, h.1.2.below hb⟩, h.2.trans (hb.mono h.2.size)⟩
set_option maxHeartbeats 6400000 in
set_option maxRecDepth 100000 in
theorem mfits_any (g o : Nat) (x : SM) (a : Option Addr) (n c : Nat) (ks : List KV) (z : Bool) (w : World) (h : SmAt w g o x) (hk : HoldsK w a n ks) (hn : n ≤ 9223372036854775807) (hz : fitsB x ks = z) :
    Calls Try.prog 41 #[.pointer (some ⟨g, o, none⟩), .slice a n c] w fun e w' => e = .returned (.bool z) ∧ Below w.heap.size w w' := by
  have hl := hk.1
  unfold fitsB at hz
  rw [hl] at hz
  by_cases h5 : n ≤ 5
  · rw [decide_eq_true h5, Bool.true_and] at hz
    have d1 : decide ((n : Int) > 5) = false := decide_eq_false (by omega)
    have d2 : decide (5 < n) = false := decide_eq_false (by omega)
    have HX := Lib.hid h; have HK := Lib.hid hk; have HZ := Lib.hid hz
    clear h hk hz
    go_enter Try.func41, Try.ntmps41
    go_wp2_with fail
    go_loopw [12] (fun iv wr => ∃ j : Nat, j ≤ n ∧ iv = .int .i64 j ∧ Hid (fitN x ks j = true) ∧ Hid (Below w.heap.size w wr)) (fun iv _ => n - (intOf iv).toNat)
    case atStart => exact ⟨0, by omega, rfl, Lib.hid rfl, Lib.hid (Below.refl _ _)⟩
    case round =>
      obtain ⟨j, hj, rfl, hF, hB⟩ := hrel
      by_cases hlt : j < n
      · obtain ⟨b, bo, rfl, hc⟩ := (HK.out.below hB.out).at (by omega)
        obtain ⟨x0, x1⟩ := hc j hlt
        have hstep : fitN x ks (j + 1) = (fitN x ks j && (!badS x (ks.getD j k0) && !stepB ks j)) := rfl
        rw [hF.out, Bool.true_and] at hstep
        unfold stepB at hstep
        obtain ⟨k, hkk⟩ : ∃ k, ks.getD j k0 = k := ⟨_, rfl⟩
        rw [hkk] at x0 x1 hstep
        have HST := Lib.hid hstep
        have HKK := Lib.hid hkk
        have HCC := Lib.hid hc
        have i1 : (0 : Int) ≤ (j : Int) := by omega
        have i2 : (j : Int) < (n : Int) := by omega
        have BX := Lib.hid (below_one wr (.cells #[.int .i64 k.1, .string k.2] 61))
        have K3 := Lib.hid (kvAt_new wr k wr.heap.size 61 rfl)
        have X3 := Lib.hid ((HX.out.below hB.out).below BX.out)
        have B3 := Lib.hid (hB.out.trans (BX.out.mono hB.out.size))
        have R3 := Lib.hid ((HK.out.below hB.out).below BX.out)
        have STOP := Lib.hid (fun (hs : fitN x ks (j + 1) = false) => (show z = false from by rw [← HZ.out]; exact fitN_stop hs n (by omega)))
        clear hc hkk hstep
        go_upto_region 6 with fail
        clear x0 x1 HCC
        generalize wr.alloc (.cells #[.int .i64 k.1, .string k.2] 61) = w3 at *
        generalize wr.heap.size = q at *
        obtain ⟨c0, c1, c2, c3, c4, c5, c6⟩ := X3.out
        obtain ⟨y0, y1⟩ := K3.out
        go_cut [38] from 13 to 51 (fun v wc => ∃ zz, v = .bool zz ∧ Hid (badS x k = zz) ∧ Hid (Below w3.heap.size w3 wc))
        case first =>
          by_cases hd : k.1 < x.least
          · have d3 : decide (k.1 < x.least) = true := decide_eq_true hd
            have HR := Lib.hid (show badS x k = true from by unfold badS; rw [decide_eq_true hd]; simp)
            clear hd
            go_quiet (fail)
            go_wp2_with fail
            go_meet
            exact ⟨true, rfl, HR, Lib.hid (below_drewN _ _)⟩
          · have d3 : decide (k.1 < x.least) = false := decide_eq_false hd
            obtain ⟨zr, hzr⟩ : ∃ zr, x.rcv = zr := ⟨_, rfl⟩
            cases zr
            · have HR := Lib.hid (show badS x k = false from by unfold badS; rw [decide_eq_false hd, hzr]; rfl)
              rw [hzr] at c3
              clear hd hzr
              go_quiet (fail)
              go_wp2_with fail
              go_meet
              exact ⟨false, rfl, HR, Lib.hid (below_drewN _ _)⟩
            · obtain ⟨z6, hz6⟩ : ∃ z6, lessK x.last k = z6 := ⟨_, rfl⟩
              have CL := Lib.hid (fun w' => mless_lit x.last k z6 w' hz6)
              have HR := Lib.hid (show badS x k = !z6 from by unfold badS; rw [decide_eq_false hd, hzr, hz6]; simp)
              have SB := Lib.hid (show (SmAt w3.drew g o x ∧ KvAt w3.drew q k) ∧ Below w3.heap.size w3 w3.drew from ⟨⟨X3.out, K3.out⟩, (Below.refl _ _).drew⟩)
              have HZR := Lib.hid hzr
              rw [hzr] at c3
              clear hd hz6 hzr
              go_region_held3 (fun w' => ((w'.cell? ⟨g, o, none⟩ = some (.int .i64 x.least) ∧ w'.cell? ⟨g, o + 1, none⟩ = some (.bool x.ended) ∧ w'.cell? ⟨g, o + 2, none⟩ = some (.int .i64 x.seq) ∧ w'.cell? ⟨g, o + 3, none⟩ = some (.bool true) ∧ w'.cell? ⟨g, o + 4, none⟩ = some (.int .i64 x.last.1) ∧ w'.cell? ⟨g, o + 5, none⟩ = some (.string x.last.2) ∧ w'.cell? ⟨g, o + 6, none⟩ = some (.slice x.wa x.wn x.wc)) ∧ (w'.cell? ⟨q, 0, none⟩ = some (.int .i64 k.1) ∧ w'.cell? ⟨q, 1, none⟩ = some (.string k.2))) ∧ Below w3.heap.size w3 w')
                (first | assumption | exact (by have := SB.out; unfold SmAt at this; rw [HZR.out] at this; exact this) | exact s6r_carry HZR.out (by assumption) (by assumption))
                (first
                  | (go_at_call 34; (with_reducible refine (CL.out _).mono ?_); rintro e w' ⟨rfl, hb9⟩))
              all_goals
                rename_i S5
                have BE := Lib.hid S5.2
                clear S5
                go_wp2_with fail
                go_meet
                exact ⟨!z6, rfl, HR, BE⟩
        case rest =>
          obtain ⟨zz, rfl, hbad, hBC⟩ := hcut
          rename World => w4
          have B4 := Lib.hid (B3.out.trans (hBC.out.mono B3.out.size))
          have K4 := Lib.hid (K3.out.below hBC.out)
          have R4 := Lib.hid (R3.out.below hBC.out)
          cases zz
          · rcases Nat.eq_zero_or_pos j with rfl | hjp
            · have FN := Lib.hid (show fitN x ks (0 + 1) = true from by rw [HST.out, hbad.out]; rfl)
              go_wp2_with fail
              go_quiet (fail)
              go_wp2_with fail
              go_roundw
              case rel => exact ⟨1, by omega, by go_num, FN, Lib.hid (B4.out.trans ((below_drewN w4 _).mono B4.out.size))⟩
              case measure => simp [intOf] <;> omega
            · obtain ⟨i, rfl⟩ : ∃ i, j = i + 1 := ⟨j - 1, by omega⟩
              obtain ⟨y, hy⟩ : ∃ y, ks.getD i k0 = y := ⟨_, rfl⟩
              obtain ⟨z8, hz8⟩ : ∃ z8, lessK y k = z8 := ⟨_, rfl⟩
              have hst := HST.out
              rw [hbad.out, Nat.add_sub_cancel, hy, hz8, decide_eq_true (show 0 < i + 1 by omega)] at hst
              have FN := Lib.hid (show fitN x ks (i + 1 + 1) = z8 from by rw [hst]; simp)
              have CL := Lib.hid (fun w' => mless_lit y k z8 w' hz8)
              obtain ⟨b2, bo2, hbe, hc4⟩ := R4.out.2 (by omega)
              injection hbe with hbe; injection hbe with hb1 hb2; subst hb1 hb2
              obtain ⟨u0, u1⟩ := hc4 i (by omega)
              rw [hy] at u0 u1
              have SB := Lib.hid (show ((w4.drew.cell? ⟨b, bo + i * 2, none⟩ = some (.int .i64 y.1) ∧ w4.drew.cell? ⟨b, bo + i * 2 + 1, none⟩ = some (.string y.2)) ∧ KvAt w4.drew q k) ∧ Below w4.heap.size w4 w4.drew from ⟨⟨⟨u0, u1⟩, K4.out⟩, (Below.refl _ _).drew⟩)
              have g1 : decide (((i + 1 : Nat) : Int) > 0) = true := decide_eq_true (by omega)
              have g3 : IntKind.i64.wrap (((i + 1 : Nat) : Int) - 1) = (i : Int) := by rw [IntWalk.i64_in _ (by omega)]; omega
              have g3' : IntKind.i64.wrap ((i : Int) + 1 - 1) = (i : Int) := by rw [IntWalk.i64_in _ (by omega)]; omega
              have g6 : IntKind.i64.wrap (i : Int) = (i : Int) := IntWalk.i64_in _ (by omega)
              have g4 : (0 : Int) ≤ (i : Int) := by omega
              have g5 : (i : Int) < (n : Int) := by omega
              have BB4 := Lib.hid (fun w' (hb : Below w4.heap.size w4 w') => B4.out.trans (hb.mono B4.out.size))
              clear hst hy hz8 hc4 u0 u1
              go_upto_region 8 with fail
              go_region_held3 (fun w' => ((w'.cell? ⟨b, bo + i * 2, none⟩ = some (.int .i64 y.1) ∧ w'.cell? ⟨b, bo + i * 2 + 1, none⟩ = some (.string y.2)) ∧ (w'.cell? ⟨q, 0, none⟩ = some (.int .i64 k.1) ∧ w'.cell? ⟨q, 1, none⟩ = some (.string k.2))) ∧ Below w4.heap.size w4 w')
                (first | assumption | exact SB.out | exact s8_carry (by assumption) (by assumption))
                (first
                  | (go_at_call 34; (with_reducible refine (CL.out _).mono ?_); rintro e w' ⟨rfl, hb9⟩))
              all_goals
                rename_i S5
                have BE := Lib.hid (BB4.out _ S5.2)
                clear S5
                cases z8
                · have HR := Lib.hid (STOP.out FN.out)
                  go_wp2_with fail
                  go_ret
                  exact ⟨by rw [HR.out]; rfl, BE.out⟩
                · go_wp2_with fail
                  go_roundw
                  case rel => exact ⟨i + 2, by omega, by go_num, FN, BE⟩
                  case measure => simp [intOf] <;> omega
          · have HR := Lib.hid (STOP.out (by rw [HST.out, hbad.out]; rfl))
            go_wp2_with fail
            go_ret
            exact ⟨by rw [HR.out]; rfl, B4.out⟩
      · obtain rfl : j = n := by omega
        have HR := Lib.hid (show z = true from by rw [← HZ.out]; exact hF.out)
        go_wp2_with fail
        go_ret
        exact ⟨by rw [HR.out]; rfl, hB.out⟩
  · have d1 : decide ((n : Int) > 5) = true := decide_eq_true (by omega)
    have d2 : decide (5 < n) = true := decide_eq_true (by omega)
    obtain rfl : z = false := by rw [← hz, decide_eq_false h5]; rfl
    clear h hk hz
    go_enter Try.func41, Try.ntmps41
    go_wp2_with fail
    go_ret
    exact ⟨rfl, Below.refl _ _⟩
end Go.Proofs.Ytgghbgmeebihbaa
namespace Go.Proofs.Ytgghbgmeebihbaa
open Go.RowKit
set_option linter.unusedVariables false
set_option maxRecDepth 20000
def prW (x : SM) : Bool := !x.ended && decide (x.wn = 0)
def wantN (L : List SM) (k : Nat) : List Nat := (List.range k).filter fun i => prW (L.getD i sm0)
def wantsL (most : Int) (T : List KV) (L : List SM) : List Nat := if doneB most T L then [] else wantN L L.length
theorem wantN_snoc (L : List SM) (k : Nat) : wantN L (k + 1) = wantN L k ++ (if prW (L.getD k sm0) then [k] else []) := by
  unfold wantN
  rw [List.range_succ, List.filter_append, List.filter_cons, List.filter_nil]
set_option maxHeartbeats 3200000 in
set_option maxRecDepth 100000 in
theorem mwants_any (b : Nat) {most : Int} {T : List KV} {L : List SM} {S : Nat → Prop} (w : World) (h : MAt w b most T L S) (hl : L.length ≤ 1000) :
    Calls Try.prog 29 #[.pointer (some ⟨b, 0, none⟩)] w (RetZ w (natsZ (wantsL most T L))) := by
  obtain ⟨i0, hi, hz0, hz1, hz2⟩ := info_parts num_info
  obtain ⟨z, hz⟩ : ∃ z, doneB most T L = z := ⟨_, rfl⟩
  have CD := Lib.hid (mdone_any z b w h hl hz)
  have WL := Lib.hid (show wantsL most T L = if z then [] else wantN L L.length from by unfold wantsL; rw [hz])
  obtain ⟨n, hn⟩ : ∃ n, L.length = n := ⟨_, rfl⟩
  have HN := Lib.hid hn
  have H := Lib.hid h
  rw [hn] at hl
  clear h hz hn
  cases z
  · go_enter Try.func29, Try.ntmps29
    go_wp2_with fail
    refine CD.out.mono ?_
    rintro e w2 ⟨rfl, hb2⟩
    obtain ⟨ta, tc, ra, rc, -, -, k2, -, -, own, -, -, -, -, -⟩ := H.out.below hb2
    rw [HN.out] at k2 own
    have HS := Lib.hid (holdsS_own own)
    have B2 := Lib.hid hb2
    clear hb2 own CD
    go_wp2_with fail
    go_loopw [3, 17] (fun ov iv wr => ∃ (j : Nat) (K : List Nat) (av : Option Addr) (cv : Nat), j ≤ n ∧ K.length ≤ j ∧ iv = .int .i64 j ∧ ov = .slice av K.length cv ∧ Hid (K = wantN L j) ∧ Hid (wr.ownsRow w2.heap.size 3 1 (.slice av K.length cv) K.length (numsV (natsZ K))) ∧ Hid (Below w.heap.size w wr) ∧ Hid (Below w2.heap.size w2 wr)) (fun _ iv _ => n - (intOf iv).toNat)
    case atStart => exact ⟨0, [], none, 0, by omega, by simp, rfl, rfl, Lib.hid rfl, Lib.hid (World.ownsRow_nil _ _ _ _), B2, Lib.hid (Below.refl _ _)⟩
    case round =>
      obtain ⟨j, K, av, cv, hj, hKl, rfl, rfl, hK, hO, hB, hB2⟩ := hrel
      by_cases hlt : j < n
      · obtain ⟨sb, so, rfl, hc⟩ := (HS.out.below hB2.out).2 (by omega)
        have hx7 := hc j hlt
        have hws := wantN_snoc L j
        obtain ⟨x, hx⟩ : ∃ x, L.getD j sm0 = x := ⟨_, rfl⟩
        rw [hx] at hx7 hws
        obtain ⟨c0, c1, c2, c3, c4, c5, c6⟩ := hx7
        obtain ⟨zw, hzw⟩ : ∃ zw, prW x = zw := ⟨_, rfl⟩
        rw [hzw] at hws
        have i1 : (0 : Int) ≤ (j : Int) := by omega
        have i2 : (j : Int) < (n : Int) := by omega
        have BX := Lib.hid (below_one wr (.cells #[.int .i64 x.least, .bool x.ended, .int .i64 x.seq, .bool x.rcv, .int .i64 x.last.1, .string x.last.2, .slice x.wa x.wn x.wc] 75))
        have CW := Lib.hid (wantsM_any wr.heap.size 0 x zw _ (smAt_new wr x wr.heap.size 75 (0, 0) rfl) hzw)
        have HW := Lib.hid hws
        have O3 := Lib.hid (owns_below hO.out BX.out)
        have B3 := Lib.hid (hB.out.trans (BX.out.mono hB.out.size))
        have B23 := Lib.hid (hB2.out.trans (BX.out.mono hB2.out.size))
        clear hc hx hzw hws
        go_upto_region 7 with fail
        clear c0 c1 c2 c3 c4 c5 c6
        generalize wr.alloc (.cells #[.int .i64 x.least, .bool x.ended, .int .i64 x.seq, .bool x.rcv, .int .i64 x.last.1, .string x.last.2, .slice x.wa x.wn x.wc] 75) = w3 at *
        generalize wr.heap.size = p at *
        go_wp2_with fail
        refine CW.out.mono ?_
        rintro e w' ⟨rfl, rfl⟩
        clear CW
        cases zw
        · have K2 := Lib.hid (show K = wantN L (j + 1) from by rw [HW.out, if_neg (by decide), List.append_nil]; exact hK.out)
          go_wp2_with fail
          go_roundw
          case rel => exact ⟨j + 1, K, av, cv, by omega, by omega, by go_num, rfl, K2, O3, B3, B23⟩
          case measure => simp [intOf] <;> omega
        · have K2 := Lib.hid (show K ++ [j] = wantN L (j + 1) from by rw [HW.out, if_pos rfl, ← hK.out])
          go_wp2_with (at_builtin; refine wpList_append_any rfl (.tmp 23) (.tmp 25) 22 rfl w2.heap.size 3 i0 _ 1 8 Try.underlying22 hi hz0 hz1 hz2 rfl (by decide) _ K.length _ rfl (O3.out.alloc _) _ 1 1 [.int .i64 (j : Int)] rfl (some_none _) rfl (one_new _ _ _ _) (by simp [Value.oneCell']) (by unfold maxLen; omega) (by omega) (by have := B23.out.size; simp; omega) ?_; intro a5 c5 w5 hown5 hb5 hnil5)
          have O5 := Lib.hid (show w5.ownsRow w2.heap.size 3 1 (.slice a5 (K ++ [j]).length c5) (K ++ [j]).length (numsV (natsZ (K ++ [j]))) from by rw [List.length_append]; unfold numsV natsZ at hown5 ⊢; rw [List.map_append, List.map_append]; exact hown5)
          have b5 : Below w2.heap.size w3 w5 := ((Below.refl w2.heap.size w3).alloc B23.out.size _).trans hb5
          have B5 := Lib.hid (B3.out.trans (b5.mono B2.out.size))
          have B25 := Lib.hid (B23.out.trans b5)
          clear hown5 hb5 hnil5
          go_roundw
          case rel => exact ⟨j + 1, K ++ [j], a5, c5, by omega, by simp; omega, by go_num, by simp, K2, O5, B5, B25⟩
          case measure => simp [intOf] <;> omega
      · obtain rfl : j = n := by omega
        have KE := Lib.hid (show K = wantsL most T L from by rw [WL.out, if_neg (by decide), HN.out]; exact hK.out)
        go_wp2_with fail
        go_ret
        exact ⟨av, cv, by rw [← KE.out, natsZ_len]; rfl, by rw [← KE.out, natsZ_len]; have := hO.out; exact ⟨this.1, this.2.imp id (fun ⟨g, cap, cur, hv, hge, r⟩ => ⟨g, cap, cur, hv, Nat.le_trans B2.out.size hge, r⟩)⟩, hB.out⟩
  · have KE := Lib.hid (show wantsL most T L = [] from by rw [WL.out, if_pos rfl])
    go_enter Try.func29, Try.ntmps29
    go_wp2_with fail
    refine CD.out.mono ?_
    rintro e w2 ⟨rfl, hb2⟩
    have B2 := Lib.hid hb2
    clear hb2
    go_wp2_with fail
    go_ret
    exact ⟨none, 0, by rw [KE.out]; rfl, by rw [KE.out]; exact World.ownsRow_nil _ _ _ _, B2.out⟩
end Go.Proofs.Ytgghbgmeebihbaa
namespace Go.Proofs.Ytgghbgmeebihbaa
open Go.RowKit
set_option linter.unusedVariables false
set_option maxRecDepth 20000
theorem smV_put1 : ∀ (L : List SM) (i : Nat) (wa : Option Addr) (wn wc : Nat) (q : Int) (e : Bool) (ks : List KV), i < L.length → ((((smV L).set (i * 7 + 6) (.slice wa wn wc)).set (i * 7 + 2) (.int .i64 q)).set (i * 7 + 1) (.bool e)) = smV (L.set i ⟨(L.getD i sm0).least, e, q, (L.getD i sm0).rcv, (L.getD i sm0).last, wa, wn, wc, ks⟩)
  | [], i, _, _, _, _, _, _, h => by simp at h
  | x :: l, 0, wa, wn, wc, q, e, ks, _ => by simp [smV]
  | x :: l, i + 1, wa, wn, wc, q, e, ks, h => by
    have ih := smV_put1 l i wa wn wc q e ks (by simpa using h)
    have e1 : (i + 1) * 7 + 6 = i * 7 + 6 + 1 + 1 + 1 + 1 + 1 + 1 + 1 := by omega
    have e2 : (i + 1) * 7 + 2 = i * 7 + 2 + 1 + 1 + 1 + 1 + 1 + 1 + 1 := by omega
    have e3 : (i + 1) * 7 + 1 = i * 7 + 1 + 1 + 1 + 1 + 1 + 1 + 1 + 1 := by omega
    rw [e1, e2, e3]
    simp only [smV, List.set_cons_succ, List.getD_cons_succ]
    rw [ih]
theorem smV_put2 : ∀ (L : List SM) (i : Nat) (wa : Option Addr) (wn wc : Nat) (l : KV) (q : Int) (e : Bool) (ks : List KV), i < L.length → (((((((smV L).set (i * 7 + 6) (.slice wa wn wc)).set (i * 7 + 4) (.int .i64 l.1)).set (i * 7 + 5) (.string l.2)).set (i * 7 + 3) (.bool true)).set (i * 7 + 2) (.int .i64 q)).set (i * 7 + 1) (.bool e)) = smV (L.set i ⟨(L.getD i sm0).least, e, q, true, l, wa, wn, wc, ks⟩)
  | [], i, _, _, _, _, _, _, _, h => by simp at h
  | x :: m, 0, wa, wn, wc, l, q, e, ks, _ => by simp [smV]
  | x :: m, i + 1, wa, wn, wc, l, q, e, ks, h => by
    have ih := smV_put2 m i wa wn wc l q e ks (by simpa using h)
    have e1 : (i + 1) * 7 + 6 = i * 7 + 6 + 1 + 1 + 1 + 1 + 1 + 1 + 1 := by omega
    have e2 : (i + 1) * 7 + 2 = i * 7 + 2 + 1 + 1 + 1 + 1 + 1 + 1 + 1 := by omega
    have e3 : (i + 1) * 7 + 1 = i * 7 + 1 + 1 + 1 + 1 + 1 + 1 + 1 + 1 := by omega
    have e4 : (i + 1) * 7 + 3 = i * 7 + 3 + 1 + 1 + 1 + 1 + 1 + 1 + 1 := by omega
    have e5 : (i + 1) * 7 + 4 = i * 7 + 4 + 1 + 1 + 1 + 1 + 1 + 1 + 1 := by omega
    have e6 : (i + 1) * 7 + 5 = i * 7 + 5 + 1 + 1 + 1 + 1 + 1 + 1 + 1 := by omega
    rw [e1, e2, e3, e4, e5, e6]
    simp only [smV, List.set_cons_succ, List.getD_cons_succ]
    rw [ih]
/-- a shard's row is stored into; what waits lies where it lay, or anew -/
theorem MMid.put {w wf w' : World} {b : Nat} {most : Int} {ta : Option Addr} {tc g rc : Nat} {T : List KV} {L L' : List SM} {S : Nat → Prop} (h : MMid w b most ta tc (some ⟨g, 0, none⟩) rc T L S) (hb : Below w.heap.size w wf) (t : Turn (fun k => k = g) wf w')
    (own : w'.ownsRow 0 75 7 (.slice (some ⟨g, 0, none⟩) L.length rc) L.length (smV L')) (hl : L'.length = L.length)
    (hx : ∀ x ∈ L', (HoldsK wf x.wa x.wn x.wait ∧ (x.wa = none → x.wn = 0 ∧ x.wc = 0) ∧ x.wn ≤ x.wc ∧ ∀ fb fo, x.wa = some ⟨fb, fo, none⟩ → (S fb ∧ fb ≠ b ∧ ta ≠ some ⟨fb, 0, none⟩ ∧ fb ≠ g) ∨ (w.heap.size ≤ fb ∧ fb < wf.heap.size))) :
    MAt w' b most T L' (fun k => S k ∨ (w.heap.size ≤ k ∧ k < wf.heap.size)) ∧ Turn S w w' := by
  obtain ⟨h1, h2, h3, h4, h5, h6, h7, h8, h9, h10, h11⟩ := h
  obtain ⟨z1, z2⟩ := h10 g rfl
  have hz := hb.size
  have hzt := t.size
  have hlb := h11 b h8
  have hgl := h11 g z1
  have far : ∀ k, k < wf.heap.size → k ≠ g → w'.heap[k]? = wf.heap[k]? := fun k hk hn => t.block k hk hn
  have ob := (far b (by omega) (fun e => z2 e.symm)).trans (hb.block b hlb)
  have cb : ∀ j, w'.cell? ⟨b, j, none⟩ = w.cell? ⟨b, j, none⟩ := fun j => World.cell?_of_block (w := w) ob
  refine ⟨⟨ta, tc, some ⟨g, 0, none⟩, rc, (cb 0).trans h1, (cb 1).trans h2, by rw [hl]; exact (cb 2).trans h3, fun j => ?_, ?_, by rw [hl]; exact own, fun x hx' => ?_, Or.inl h8, fun q hq => ⟨Or.inl (h9 q hq).1, (h9 q hq).2⟩, fun q hq => ⟨Or.inl (h10 q hq).1, (h10 q hq).2⟩, fun k hk => ?_⟩, ?_⟩
  · rw [World.frozen?_of_block (w := w) ob]; exact h4 j
  · refine mowns_block0 h5 (fun q hq => ?_)
    have hql := h11 q (h9 q hq).1
    exact (far q (by omega) (fun e => (h9 q hq).2.2 (by rw [e]))).trans (hb.block q hql)
  · obtain ⟨y1, y2, y3, y5⟩ := hx x hx'
    have fne : ∀ fb fo, x.wa = some ⟨fb, fo, none⟩ → fb < wf.heap.size ∧ fb ≠ g := fun fb fo e => by
      rcases y5 fb fo e with hh | hh
      · have := h11 fb hh.1; exact ⟨by omega, hh.2.2.2⟩
      · exact ⟨hh.2, by omega⟩
    refine ⟨holdsK_blocks y1 (fun fb fo e => far fb (fne fb fo e).1 (fne fb fo e).2), y2, y3, fun fb fo e => ?_⟩
    rcases y5 fb fo e with hh | hh
    · exact ⟨Or.inl hh.1, hh.2.1, hh.2.2.1, fun e2 => (fne fb fo e).2 (by injection e2 with e2; injection e2 with e2; exact e2.symm)⟩
    · refine ⟨Or.inr hh, by omega, fun e2 => ?_, fun e2 => (fne fb fo e).2 (by injection e2 with e2; injection e2 with e2; exact e2.symm)⟩
      have := h11 fb (h9 fb e2).1; omega
  · rcases hk with hk | hk
    · have := h11 k hk; omega
    · omega
  · exact (Turn.of_below hb).trans (t.mono (fun k hk => by rw [hk]; exact z1))
end Go.Proofs.Ytgghbgmeebihbaa
namespace Go.Proofs.Ytgghbgmeebihbaa
open Go.RowKit
set_option linter.unusedVariables false
set_option maxRecDepth 20000
abbrev HD := Nat × KV
def hd0 : HD := (0, k0)
def hdV : List HD → List Value
  | [] => []
  | h :: l => .int .i64 (h.1 : Int) :: .int .i64 h.2.1 :: .string h.2.2 :: hdV l
theorem hdV_len : ∀ l : List HD, (hdV l).length = l.length * 3
  | [] => rfl
  | x :: l => by simp [hdV, hdV_len l]; omega
theorem hdV_app : ∀ k l : List HD, hdV (k ++ l) = hdV k ++ hdV l
  | [], l => rfl
  | x :: k, l => by simp [hdV, hdV_app k l]
theorem hdV_at : ∀ (l : List HD) (i : Nat), i < l.length → (hdV l)[i * 3]? = some (.int .i64 ((l.getD i hd0).1 : Int)) ∧ (hdV l)[i * 3 + 1]? = some (.int .i64 (l.getD i hd0).2.1) ∧ (hdV l)[i * 3 + 2]? = some (.string (l.getD i hd0).2.2)
  | [], i, h => by simp at h
  | x :: l, 0, _ => by simp [hdV]
  | x :: l, i + 1, h => by
    have ih := hdV_at l i (by simpa using h)
    have e1 : (i + 1) * 3 = i * 3 + 1 + 1 + 1 := by omega
    rw [e1]
    simpa [hdV] using ih
def headOf (L : List SM) (i : Nat) : List HD := if 0 < (L.getD i sm0).wn then [(i, (L.getD i sm0).wait.getD 0 k0)] else []
def headsN (L : List SM) : Nat → List HD
  | 0 => []
  | k + 1 => headsN L k ++ headOf L k
theorem headsN_len (L : List SM) : ∀ k, (headsN L k).length ≤ k
  | 0 => Nat.le_refl _
  | k + 1 => by
    unfold headsN headOf
    have := headsN_len L k
    split <;> simp <;> omega
def RetH (w : World) (hs : List HD) (e : Ending) (w' : World) : Prop := ∃ a c, e = .returned (.slice a hs.length c) ∧ w'.ownsRow w.heap.size 84 3 (.slice a hs.length c) hs.length (hdV hs) ∧ Below w.heap.size w w'
theorem head_info : (Try.prog.info? 84).map (fun i => (i.zero, i.size, i.bytes)) = some (some (.agg #[.int .i64 0, .int .i64 0, .string ⟨#[]⟩]), 3, 32) := by kernel_rfl
set_option maxHeartbeats 3200000 in
set_option maxRecDepth 100000 in
theorem mheads_any (b : Nat) {most : Int} {T : List KV} {L : List SM} {S : Nat → Prop} (w : World) (h : MAt w b most T L S) (hl : L.length ≤ 1000) :
    Calls Try.prog 46 #[.pointer (some ⟨b, 0, none⟩)] w (RetH w (headsN L L.length)) := by
  obtain ⟨i0, hi, hz0, hz1, hz2⟩ := info_parts head_info
  obtain ⟨n, hn⟩ : ∃ n, L.length = n := ⟨_, rfl⟩
  have HN := Lib.hid hn
  obtain ⟨ta, tc, ra, rc, -, -, k2, -, -, own, wt, -, -, -, -⟩ := h
  rw [hn] at k2 own hl
  rw [hn]
  have HS := Lib.hid (holdsS_own own)
  have WT := Lib.hid wt
  clear own wt hn
  go_enter Try.func46, Try.ntmps46
  go_wp2_with fail
  go_loopw [3, 11] (fun ov iv wr => ∃ (j : Nat) (K : List HD) (av : Option Addr) (cv : Nat), j ≤ n ∧ K.length ≤ j ∧ iv = .int .i64 j ∧ ov = .slice av K.length cv ∧ Hid (K = headsN L j) ∧ Hid (wr.ownsRow w.heap.size 84 3 (.slice av K.length cv) K.length (hdV K)) ∧ Hid (Below w.heap.size w wr)) (fun _ iv _ => n - (intOf iv).toNat)
  case atStart => exact ⟨0, [], none, 0, by omega, by simp, rfl, rfl, Lib.hid rfl, Lib.hid (World.ownsRow_nil _ _ _ _), Lib.hid (Below.refl _ _)⟩
  case round =>
    obtain ⟨j, K, av, cv, hj, hKl, rfl, rfl, hK, hO, hB⟩ := hrel
    by_cases hlt : j < n
    · obtain ⟨sb, so, rfl, hc⟩ := (HS.out.below hB.out).2 (by omega)
      have hx7 := hc j hlt
      have hws : headsN L (j + 1) = headsN L j ++ headOf L j := rfl
      unfold headOf at hws
      have hwt := WT.out _ (mem_sm (show j < L.length by rw [HN.out]; exact hlt))
      obtain ⟨x, hx⟩ : ∃ x, L.getD j sm0 = x := ⟨_, rfl⟩
      rw [hx] at hx7 hws hwt
      have HKX := Lib.hid (hwt.1.below hB.out)
      obtain ⟨c0, c1, c2, c3, c4, c5, c6⟩ := hx7
      have i1 : (0 : Int) ≤ (j : Int) := by omega
      have i2 : (j : Int) < (n : Int) := by omega
      have BX := Lib.hid (below_one wr (.cells #[.int .i64 x.least, .bool x.ended, .int .i64 x.seq, .bool x.rcv, .int .i64 x.last.1, .string x.last.2, .slice x.wa x.wn x.wc] 75))
      have SX := Lib.hid (smAt_new wr x wr.heap.size 75 (0, 0) rfl)
      have HW := Lib.hid hws
      have O3 := Lib.hid (owns_below hO.out BX.out)
      have B3 := Lib.hid (hB.out.trans (BX.out.mono hB.out.size))
      have HK3 := Lib.hid (HKX.out.below BX.out)
      clear hc hx hws hwt
      go_upto_region 5 with fail
      clear c0 c1 c2 c3 c4 c5 c6
      generalize wr.alloc (.cells #[.int .i64 x.least, .bool x.ended, .int .i64 x.seq, .bool x.rcv, .int .i64 x.last.1, .string x.last.2, .slice x.wa x.wn x.wc] 75) = w3 at *
      generalize wr.heap.size = p at *
      obtain ⟨-, -, -, -, -, -, c6⟩ := SX.out
      simp only [Nat.zero_add] at c6
      by_cases h0 : 0 < x.wn
      · have d1 : decide (0 < x.wn) = true := decide_eq_true h0
        have d2 : decide ((x.wn : Int) > 0) = true := decide_eq_true (by omega)
        have d3 : (0 : Int) < (x.wn : Int) := by omega
        obtain ⟨fb, fo, hwa, hkc⟩ := HK3.out.2 h0
        obtain ⟨y0, y1⟩ := hkc 0 h0
        obtain ⟨k, hk⟩ : ∃ k, x.wait.getD 0 k0 = k := ⟨_, rfl⟩
        have hws2 := HW.out
        rw [if_pos h0, hk, ← hK.out] at hws2
        have K2 := Lib.hid hws2
        rw [hk] at y0 y1
        rw [hwa] at c6
        simp only [Nat.zero_mul, Nat.add_zero] at y0 y1
        clear hkc hk hws2 hwa
        go_wp2_with (at_builtin; refine wpList_append_any rfl (.tmp 20) (.tmp 27) 87 rfl w.heap.size 84 i0 _ 3 32 Try.underlying87 hi hz0 hz1 hz2 rfl (by decide) _ K.length _ rfl (O3.out.alloc _) _ 1 1 [.int .i64 (j : Int), .int .i64 k.1, .string k.2] rfl (some_none _) rfl (row_new _ #[.int .i64 (j : Int), .int .i64 k.1, .string k.2] _ _) (by simp [Value.oneCell']) (by unfold maxLen; omega) (by omega) (by have := B3.out.size; simp; omega) ?_; intro a5 c5 w5 hown5 hb5 hnil5)
        have O5 := Lib.hid (show w5.ownsRow w.heap.size 84 3 (.slice a5 (K ++ [(j, k)]).length c5) (K ++ [(j, k)]).length (hdV (K ++ [(j, k)])) from by rw [List.length_append, hdV_app]; exact hown5)
        have B5 := Lib.hid (B3.out.trans (((Below.refl w.heap.size w3).alloc B3.out.size _).trans hb5))
        clear hown5 hb5 hnil5
        go_roundw
        case rel => exact ⟨j + 1, K ++ [(j, k)], a5, c5, by omega, by simp; omega, by go_num, by simp, Lib.hid K2.out.symm, O5, B5⟩
        case measure => simp [intOf] <;> omega
      · have d1 : decide (0 < x.wn) = false := decide_eq_false h0
        have d2 : decide ((x.wn : Int) > 0) = false := decide_eq_false (by omega)
        have K2 := Lib.hid (show K = headsN L (j + 1) from by rw [HW.out, if_neg h0, List.append_nil]; exact hK.out)
        go_wp2_with fail
        go_roundw
        case rel => exact ⟨j + 1, K, av, cv, by omega, by omega, by go_num, rfl, K2, O3, B3⟩
        case measure => simp [intOf] <;> omega
    · obtain rfl : j = n := by omega
      go_wp2_with fail
      go_ret
      exact ⟨av, cv, by rw [← hK.out]; rfl, by rw [← hK.out]; exact hO.out, hB.out⟩
def bestF (b h : HD) : HD := if lessK h.2 b.2 then h else b
def firstL (hs : List HD) : HD := hs.foldl bestF (hs.getD 0 hd0)
def HeIn (w : World) (p : Nat) (h : HD) : Prop := w.cell? ⟨p, 0, none⟩ = some (.int .i64 (h.1 : Int)) ∧ w.cell? ⟨p, 1, none⟩ = some (.int .i64 h.2.1) ∧ w.cell? ⟨p, 2, none⟩ = some (.string h.2.2)
theorem HeIn.of {w w' : World} {p : Nat} {x : HD} (h : HeIn w p x) (e : ∀ i, w'.cell? ⟨p, i, none⟩ = w.cell? ⟨p, i, none⟩) : HeIn w' p x := by
  unfold HeIn at *
  rw [e, e, e]; exact h
theorem HeIn.below {w w' : World} {p : Nat} {x : HD} (h : HeIn w p x) (hb : Below w.heap.size w w') : HeIn w' p x := h.of fun i => hb.cell (p := ⟨p, i, none⟩) (lt_of_cell h.1)
theorem heIn_new (w : World) (x : HD) (p : Nat) (e : TypeId) (fr : Nat × Nat) (hp : p = w.heap.size) : HeIn (w.alloc (.cells #[.int .i64 (x.1 : Int), .int .i64 x.2.1, .string x.2.2] e fr)) p x := by
  subst hp
  unfold HeIn
  refine ⟨?_, ?_, ?_⟩ <;> (rw [World.cell?_alloc_mark]; rfl)
def HoldsH (w : World) (a : Option Addr) (n : Nat) (hs : List HD) : Prop := hs.length = n ∧ (0 < n → ∃ g, a = some ⟨g, 0, none⟩ ∧ ∀ i, i < n → w.cell? ⟨g, i * 3, none⟩ = some (.int .i64 ((hs.getD i hd0).1 : Int)) ∧ w.cell? ⟨g, i * 3 + 1, none⟩ = some (.int .i64 (hs.getD i hd0).2.1) ∧ w.cell? ⟨g, i * 3 + 2, none⟩ = some (.string (hs.getD i hd0).2.2))
theorem HoldsH.below {w w' : World} {a : Option Addr} {n : Nat} {hs : List HD} (h : HoldsH w a n hs) (hb : Below w.heap.size w w') : HoldsH w' a n hs := by
  refine ⟨h.1, fun h0 => ?_⟩
  obtain ⟨g, ha, hc⟩ := h.2 h0
  have hlt := lt_of_cell (hc 0 h0).1
  refine ⟨g, ha, fun i hi => ?_⟩
  rw [hb.cell (p := ⟨g, i * 3, none⟩) hlt, hb.cell (p := ⟨g, i * 3 + 1, none⟩) hlt, hb.cell (p := ⟨g, i * 3 + 2, none⟩) hlt]
  exact hc i hi
theorem holdsH_own {w : World} {base : Nat} {e : TypeId} {a : Option Addr} {n c : Nat} {hs : List HD} (h : w.ownsRow base e 3 (.slice a n c) n (hdV hs)) : HoldsH w a n hs := by
  have hl : hs.length = n := by have := h.1; rw [hdV_len] at this; omega
  refine ⟨hl, fun h0 => ?_⟩
  obtain ⟨g, cap', hv⟩ := Joins.ownsRow_form h (by omega)
  simp only [Value.slice.injEq] at hv
  obtain ⟨rfl, -, -⟩ := hv
  refine ⟨g, rfl, fun i hi => ?_⟩
  obtain ⟨v0, v1, v2⟩ := hdV_at hs i (by omega)
  exact ⟨(h.cellAt (i * 3) (by omega)).trans v0, (h.cellAt (i * 3 + 1) (by omega)).trans v1, (h.cellAt (i * 3 + 2) (by omega)).trans v2⟩
end Go.Proofs.Ytgghbgmeebihbaa
namespace Go.Proofs.Ytgghbgmeebihbaa
open Go.RowKit
set_option linter.unusedVariables false
set_option maxRecDepth 20000
theorem mfirst_nil (a : Option Addr) (c : Nat) (w : World) : Calls Try.prog 45 #[.slice a 0 c] w fun e w' => e = .returned (.tuple #[.agg #[.int .i64 0, .int .i64 0, .string ⟨#[]⟩], .bool false]) ∧ Below w.heap.size w w' := by
  go_enter Try.func45, Try.ntmps45
  go_wp2_with fail
  refine bodyPost_ret (v := .tuple #[.agg #[.int .i64 0, .int .i64 0, .string ⟨#[]⟩], .bool false]) (by simp [results, go_sem]) rfl ⟨rfl, ?_⟩
  first
    | exact below_one _ _
    | exact (((below_one w _).setCell (p := ⟨w.heap.size, 0, none⟩) (Nat.le_refl _) _).setCell (p := ⟨w.heap.size, 1, none⟩) (Nat.le_refl _) _).setCell (p := ⟨w.heap.size, 2, none⟩) (Nat.le_refl _) _
def FstI (w0 w : World) (p : Nat) (x : HD) : Prop := HeIn w (p + 1) x ∧ HeIn w p hd0 ∧ (∀ i, w.frozen? ⟨p + 1, i, none⟩ = false) ∧ (∀ i, w.frozen? ⟨p, i, none⟩ = false) ∧ Below w0.heap.size w0 w
theorem FstI.below {w0 w w' : World} {p : Nat} {x : HD} (h : FstI w0 w p x) (hb : Below w.heap.size w w') : FstI w0 w' p x :=
  ⟨h.1.below hb, h.2.1.below hb, fun i => (hb.frozen (p := ⟨p + 1, i, none⟩) (lt_of_cell h.1.1)).trans (h.2.2.1 i), fun i => (hb.frozen (p := ⟨p, i, none⟩) (lt_of_cell h.2.1.1)).trans (h.2.2.2.1 i), h.2.2.2.2.trans (hb.mono h.2.2.2.2.size)⟩
theorem FstI.start (w : World) (x : HD) (e1 e2 : TypeId) : FstI w ((w.alloc (.cells #[.int .i64 0, .int .i64 0, .string ⟨#[]⟩] e1)).alloc (.cells #[.int .i64 (x.1 : Int), .int .i64 x.2.1, .string x.2.2] e2)) w.heap.size x := by
  refine ⟨heIn_new _ x _ e2 (0, 0) (by simp), (heIn_new w hd0 w.heap.size e1 (0, 0) rfl).below (below_one _ _), fun i => frozen_alloc (by simp), fun i => ((below_one _ _).frozen (p := ⟨w.heap.size, i, none⟩) (by simp)).trans (frozen_alloc rfl), ((Below.refl _ _).alloc (Nat.le_refl _) _).alloc (by simp) _⟩
theorem FstI.store {w0 w : World} {p : Nat} {x y : HD} (h : FstI w0 w p x) (hp : p = w0.heap.size) : FstI w0 (((w.setCell ⟨p + 1, 0, none⟩ (.int .i64 (y.1 : Int))).setCell ⟨p + 1, 1, none⟩ (.int .i64 y.2.1)).setCell ⟨p + 1, 2, none⟩ (.string y.2.2)) p y := by
  obtain ⟨⟨a0, a1, a2⟩, b, c, d, e⟩ := h
  have hge : w0.heap.size ≤ p + 1 := by omega
  refine ⟨⟨?_, ?_, ?_⟩, b.of fun i => ?_, fun i => ?_, fun i => ?_, ((e.setCell (p := ⟨p + 1, 0, none⟩) hge _).setCell (p := ⟨p + 1, 1, none⟩) hge _).setCell (p := ⟨p + 1, 2, none⟩) hge _⟩
  · rw [cset_ne (by omega), cset_ne (by omega)]; exact cset_at a0
  · rw [cset_ne (by omega)]; exact cset_at ((cset_ne (by omega)).trans a1)
  · exact cset_at ((cset_ne (by omega)).trans ((cset_ne (by omega)).trans a2))
  · rw [cset_far (by omega), cset_far (by omega), cset_far (by omega)]
  · rw [fset_any, fset_any, fset_any]; exact c i
  · rw [fset_any, fset_any, fset_any]; exact d i
theorem HoldsH.far {w w' : World} {g n : Nat} {hs : List HD} (h : HoldsH w (some ⟨g, 0, none⟩) n hs) (e : ∀ i, w'.cell? ⟨g, i, none⟩ = w.cell? ⟨g, i, none⟩) : HoldsH w' (some ⟨g, 0, none⟩) n hs := by
  refine ⟨h.1, fun h0 => ?_⟩
  obtain ⟨g', hg, hc⟩ := h.2 h0
  injection hg with hg; injection hg with hg; subst hg
  refine ⟨g, rfl, fun i hi => ?_⟩
  rw [e, e, e]
  exact hc i hi
theorem first_take {hs : List HD} {j : Nat} (h : j < hs.length) (b : HD) : (hs.take (j + 1)).foldl bestF b = bestF ((hs.take j).foldl bestF b) (hs.getD j hd0) := by
  rw [List.take_add_one, List.getElem?_eq_getElem h, List.foldl_append, List.getD_eq_getElem?_getD, List.getElem?_eq_getElem h]; rfl
set_option maxHeartbeats 3200000 in
set_option maxRecDepth 100000 in
theorem mfirst_any (a : Option Addr) (n c : Nat) (hs : List HD) (w : World) (h : HoldsH w a n hs) (h0 : 0 < n) (hn : n ≤ 1000) :
    Calls Try.prog 45 #[.slice a n c] w fun e w' => e = .returned (.tuple #[.agg #[.int .i64 ((firstL hs).1 : Int), .int .i64 (firstL hs).2.1, .string (firstL hs).2.2], .bool true]) ∧ Below w.heap.size w w' := by
  obtain ⟨R, hR⟩ : ∃ R, firstL hs = R := ⟨_, rfl⟩
  rw [hR]
  obtain ⟨b0, hb0⟩ : ∃ b0, hs.getD 0 hd0 = b0 := ⟨_, rfl⟩
  have RR := Lib.hid (show hs.foldl bestF b0 = R from by rw [← hR, ← hb0]; rfl)
  have hl := h.1
  have HS := Lib.hid (h.below (below_one w (.cells #[.int .i64 0, .int .i64 0, .string ⟨#[]⟩] 84)))
  obtain ⟨g, ha, hc⟩ := HS.out.2 h0
  have LG0 : g < w.heap.size := by
    obtain ⟨g', ha', hc'⟩ := h.2 h0
    rw [ha] at ha'
    injection ha' with e; injection e with e; subst e
    exact lt_of_cell (hc' 0 h0).1
  obtain ⟨x0, x1, x2⟩ := hc 0 h0
  rw [hb0] at x0 x1 x2
  simp only [Nat.zero_mul, Nat.zero_add] at x0 x1 x2
  have FS := Lib.hid (FstI.start w b0 84 84)
  have HS2 := Lib.hid (HS.out.below (below_one _ (.cells #[.int .i64 (b0.1 : Int), .int .i64 b0.2.1, .string b0.2.2] 84)))
  have z1 : ((n : Int) == 0) = false := by simp; omega
  have z2 : (0 : Int) < (n : Int) := by omega
  subst ha
  clear hR hb0 h hc
  go_enter Try.func45, Try.ntmps45
  go_upto_region 4 with fail
  clear x0 x1 x2
  generalize (w.alloc (.cells #[.int .i64 0, .int .i64 0, .string ⟨#[]⟩] 84)).alloc (.cells #[.int .i64 (b0.1 : Int), .int .i64 b0.2.1, .string b0.2.2] 84) = w2 at *
  obtain ⟨p, hp⟩ : ∃ p, w.heap.size = p := ⟨_, rfl⟩
  have HP := Lib.hid hp
  rw [hp] at FS LG0
  rw [hp]
  have LG := Lib.hid LG0
  clear hp LG0
  go_wp2_with fail
  go_loopw [16] (fun iv wr => ∃ j : Nat, j ≤ n ∧ iv = .int .i64 j ∧ Hid (FstI w wr p ((hs.take j).foldl bestF b0)) ∧ Hid (HoldsH wr (some ⟨g, 0, none⟩) n hs)) (fun iv _ => n - (intOf iv).toNat)
  case atStart => exact ⟨0, by omega, rfl, FS, HS2⟩
  case round =>
    obtain ⟨j, hj, rfl, hF, hH⟩ := hrel
    by_cases hlt : j < n
    · obtain ⟨g', hg', hc⟩ := hH.out.2 (by omega)
      injection hg' with hg'; injection hg' with hg'; subst hg'
      obtain ⟨x0, x1, x2⟩ := hc j hlt
      have hft := first_take (hs := hs) (show j < hs.length by omega) b0
      obtain ⟨x, hx⟩ : ∃ x, hs.getD j hd0 = x := ⟨_, rfl⟩
      obtain ⟨y, hy⟩ : ∃ y, (hs.take j).foldl bestF b0 = y := ⟨_, rfl⟩
      rw [hx] at x0 x1 x2 hft
      rw [hy] at hft
      have hF2 := hF.out
      rw [hy] at hF2
      have FT := Lib.hid hft
      have i1 : (0 : Int) ≤ (j : Int) := by omega
      have i2 : (j : Int) < (n : Int) := by omega
      have BX := Lib.hid (below_one wr (.cells #[.int .i64 (x.1 : Int), .int .i64 x.2.1, .string x.2.2] 84))
      have X3 := Lib.hid (heIn_new wr x wr.heap.size 84 (0, 0) rfl)
      have F3 := Lib.hid (hF2.below BX.out)
      have H3 := Lib.hid (hH.out.below BX.out)
      have PQ := Lib.hid (show p + 1 < wr.heap.size from lt_of_cell hF2.1.1)
      clear hc hx hy hft hF hF2 hH
      go_upto_region 7 with fail
      clear x0 x1 x2
      generalize wr.alloc (.cells #[.int .i64 (x.1 : Int), .int .i64 x.2.1, .string x.2.2] 84) = w3 at *
      generalize wr.heap.size = q at *
      obtain ⟨y0, y1, y2⟩ := X3.out
      obtain ⟨u0, u1, u2⟩ := F3.out.1
      obtain ⟨z, hz⟩ : ∃ z, lessK x.2 y.2 = z := ⟨_, rfl⟩
      have CL := Lib.hid (mless_lit x.2 y.2 z w3 hz)
      have HZ := Lib.hid hz
      clear hz
      go_wp2_with fail
      refine CL.out.mono ?_
      rintro e w4 ⟨rfl, hb4⟩
      have X4 := Lib.hid (X3.out.below hb4)
      have F4 := Lib.hid (F3.out.below hb4)
      have H4 := Lib.hid (H3.out.below hb4)
      clear hb4 CL y0 y1 y2 u0 u1 u2
      cases z
      · have F5 := Lib.hid (show FstI w w4 p ((hs.take (j + 1)).foldl bestF b0) from by rw [FT.out]; unfold bestF; rw [HZ.out, if_neg (by decide)]; exact F4.out)
        go_wp2_with fail
        go_roundw
        case rel => exact ⟨j + 1, by omega, by go_num, F5, H4⟩
        case measure => simp [intOf] <;> omega
      · have F5 := Lib.hid (show FstI w (((w4.setCell ⟨p + 1, 0, none⟩ (.int .i64 (x.1 : Int))).setCell ⟨p + 1, 1, none⟩ (.int .i64 x.2.1)).setCell ⟨p + 1, 2, none⟩ (.string x.2.2)) p ((hs.take (j + 1)).foldl bestF b0) from by rw [FT.out]; unfold bestF; rw [HZ.out, if_pos rfl]; exact F4.out.store HP.out.symm)
        have H5 := Lib.hid (show HoldsH (((w4.setCell ⟨p + 1, 0, none⟩ (.int .i64 (x.1 : Int))).setCell ⟨p + 1, 1, none⟩ (.int .i64 x.2.1)).setCell ⟨p + 1, 2, none⟩ (.string x.2.2)) (some ⟨g, 0, none⟩) n hs from H4.out.far fun i => by
          have := LG.out
          rw [cset_far (by omega), cset_far (by omega), cset_far (by omega)])
        obtain ⟨y0, y1, y2⟩ := X4.out
        obtain ⟨u0, u1, u2⟩ := F4.out.1
        have f0 := F4.out.2.2.1
        go_wp2_with fail
        go_roundw
        case rel => exact ⟨j + 1, by omega, by go_num, F5, H5⟩
        case measure => simp [intOf] <;> omega
    · obtain rfl : j = n := by omega
      have hF2 := hF.out
      rw [List.take_of_length_le (by omega), RR.out] at hF2
      have F2 := Lib.hid hF2
      obtain ⟨u0, u1, u2⟩ := hF2.1
      obtain ⟨v0, v1, v2⟩ := hF2.2.1
      have f0 := hF2.2.2.2.1
      clear hF hF2
      go_wp2_with fail
      have hge : w.heap.size ≤ p := by have := HP.out; omega
      have BE := (((F2.out.2.2.2.2.setCell (p := ⟨p, 0, none⟩) hge (.int .i64 (R.1 : Int))).setCell (p := ⟨p, 1, none⟩) hge (.int .i64 R.2.1)).setCell (p := ⟨p, 2, none⟩) hge (.string R.2.2))
      exact bodyPost_ret (v := .tuple #[.agg #[.int .i64 (R.1 : Int), .int .i64 R.2.1, .string R.2.2], .bool true]) (by simp [results, go_sem, v0, v1, v2]) rfl ⟨rfl, BE⟩
end Go.Proofs.Ytgghbgmeebihbaa
namespace Go.Proofs.Ytgghbgmeebihbaa
open Go.RowKit
set_option linter.unusedVariables false
set_option maxRecDepth 20000
/-- a shard without where its items lie -/
def spl (x : SM) : SM := ⟨x.least, x.ended, x.seq, x.rcv, x.last, none, x.wn, 0, x.wait⟩
def popS (x : SM) : SM := ⟨x.least, x.ended, x.seq, x.rcv, x.last, none, x.wn - 1, 0, x.wait.tail⟩
theorem getD_spl (L : List SM) (i : Nat) : (L.map spl).getD i sm0 = spl (L.getD i sm0) := by
  by_cases h : i < L.length
  · rw [List.getD_eq_getElem?_getD, List.getD_eq_getElem?_getD, List.getElem?_map, List.getElem?_eq_getElem h]; rfl
  · rw [List.getD_eq_getElem?_getD, List.getD_eq_getElem?_getD, List.getElem?_map, List.getElem?_eq_none (by omega)]; rfl
theorem done_spl (most : Int) (T : List KV) (L : List SM) : doneB most T (L.map spl) = doneB most T L := by
  unfold doneB
  rw [List.any_map]
  rfl
theorem heads_spl (L : List SM) : ∀ n, headsN (L.map spl) n = headsN L n
  | 0 => rfl
  | n + 1 => by
    unfold headsN
    rw [heads_spl L n]
    unfold headOf
    rw [getD_spl]
    rfl
theorem may_spl (k : KV) (L : List SM) : (L.map spl).any (prM k) = L.any (prM k) := by
  rw [List.any_map]
  rfl
/-- so many tellings at most -/
def tellF (most : Int) : Nat → List KV → List SM → List KV → List KV × List SM × List KV
  | 0, T, P, out => (T, P, out)
  | f + 1, T, P, out => if doneB most T P then (T, P, out) else
      if headsN P P.length = [] then (T, P, out) else
      if P.any (prM (firstL (headsN P P.length)).2) then (T, P, out) else
      tellF most f (T ++ [(firstL (headsN P P.length)).2]) (P.set (firstL (headsN P P.length)).1 (popS (P.getD (firstL (headsN P P.length)).1 sm0))) (out ++ [(firstL (headsN P P.length)).2])
theorem heads_mem {L : List SM} {h : HD} : ∀ {n : Nat}, h ∈ headsN L n → h.1 < n ∧ 0 < (L.getD h.1 sm0).wn ∧ h.2 = (L.getD h.1 sm0).wait.getD 0 k0
  | 0, hm => by simp [headsN] at hm
  | n + 1, hm => by
    unfold headsN at hm
    rcases List.mem_append.1 hm with hm | hm
    · have := heads_mem hm
      exact ⟨by omega, this.2⟩
    · unfold headOf at hm
      split at hm
      · rename_i h0
        simp only [List.mem_singleton] at hm
        subst hm
        exact ⟨by simp, h0, rfl⟩
      · simp at hm
theorem fold_mem (hs : List HD) : ∀ (b : HD), hs.foldl bestF b = b ∨ hs.foldl bestF b ∈ hs := by
  induction hs with
  | nil => intro b; exact Or.inl rfl
  | cons x l ih =>
    intro b
    rw [List.foldl_cons]
    rcases ih (bestF b x) with h | h
    · rw [h]
      unfold bestF
      split
      · exact Or.inr (List.mem_cons_self ..)
      · exact Or.inl rfl
    · exact Or.inr (List.mem_cons_of_mem _ h)
theorem first_mem {hs : List HD} (h : hs ≠ []) : firstL hs ∈ hs := by
  unfold firstL
  cases hs with
  | nil => exact absurd rfl h
  | cons x l =>
    rcases fold_mem (x :: l) ((x :: l).getD 0 hd0) with h1 | h1
    · rw [h1]; simp
    · exact h1
/-- what waits, but the first -/
theorem holdsK_tail {w : World} {fb fo wn : Nat} {ks : List KV} {a : Option Addr} (h : HoldsK w (some ⟨fb, fo, none⟩) wn ks) (h0 : 0 < wn) (ha : 1 < wn → a = some ⟨fb, fo + 2, none⟩) : HoldsK w a (wn - 1) ks.tail := by
  have hl := h.1
  refine ⟨by rw [List.length_tail, hl], fun hp => ?_⟩
  obtain ⟨b, o, he, hc⟩ := h.2 h0
  injection he with he; injection he with e1 e2; subst e1 e2
  refine ⟨fb, fo + 2, ha (by omega), fun i hi => ?_⟩
  obtain ⟨c0, c1⟩ := hc (i + 1) (by omega)
  have e : ks.tail.getD i k0 = ks.getD (i + 1) k0 := by
    rw [List.getD_eq_getElem?_getD, List.getElem?_tail, ← List.getD_eq_getElem?_getD]
  rw [e, show fo + 2 + i * 2 = fo + (i + 1) * 2 by omega]
  exact ⟨c0, c1⟩
theorem smV_wait : ∀ (L : List SM) (i : Nat) (wa : Option Addr) (wn wc : Nat) (ks : List KV), i < L.length → (smV L).set (i * 7 + 6) (.slice wa wn wc) = smV (L.set i ⟨(L.getD i sm0).least, (L.getD i sm0).ended, (L.getD i sm0).seq, (L.getD i sm0).rcv, (L.getD i sm0).last, wa, wn, wc, ks⟩)
  | [], i, _, _, _, _, h => by simp at h
  | x :: l, 0, wa, wn, wc, ks, _ => by simp [smV]
  | x :: l, i + 1, wa, wn, wc, ks, h => by
    have ih := smV_wait l i wa wn wc ks (by simpa using h)
    have e1 : (i + 1) * 7 + 6 = i * 7 + 6 + 1 + 1 + 1 + 1 + 1 + 1 + 1 := by omega
    rw [e1]
    simp only [smV, List.set_cons_succ, List.getD_cons_succ]
    rw [ih]
/-- one more is told -/
theorem MMid.told {w w6 : World} {b : Nat} {most : Int} {ta : Option Addr} {tc g cap : Nat} {ra : Option Addr} {rc : Nat} {T : List KV} {L : List SM} {S : Nat → Prop} {o : Obj} {k : KV} (h : MMid w b most ta tc ra rc T L S)
    (own : w6.ownsRow 0 61 2 (.slice (some ⟨g, 0, none⟩) (T.length + 1) cap) (T.length + 1) (keysV T ++ [.int .i64 k.1, .string k.2]))
    (hg : (w.alloc o).grownBy w6 (Value.slice ta T.length tc).ownBlock) (hat : (Value.slice ta T.length tc).ownBlock = some g ∨ g = (w.alloc o).heap.size) (hlt : g < w6.heap.size) :
    MAt (w6.setCell ⟨b, 1, none⟩ (.slice (some ⟨g, 0, none⟩) (T.length + 1) cap)) b most (T ++ [k]) L (fun q => S q ∨ q = g) ∧ Turn S w (w6.setCell ⟨b, 1, none⟩ (.slice (some ⟨g, 0, none⟩) (T.length + 1) cap)) := by
  obtain ⟨h1, h2, h3, h4, h5, h6, h7, h8, h9, h10, h11⟩ := h
  have hza : (w.alloc o).heap.size = w.heap.size + 1 := by simp
  have hz6 := hg.size
  have hlb := h11 b h8
  have old : ∀ q, q < w.heap.size → (∀ r, ta = some ⟨r, 0, none⟩ → q ≠ r) → w6.heap[q]? = w.heap[q]? := fun q hq hn =>
    (hg.block q (by omega) (fun e => hn q (mownb h5 e) rfl)).trans (Below.heap_alloc _ _ _ (by omega))
  have ob := old b hlb (fun r e hq => (h9 r e).2.1 hq.symm)
  have cb : ∀ i, w6.cell? ⟨b, i, none⟩ = w.cell? ⟨b, i, none⟩ := fun i => World.cell?_of_block (w := w) ob
  have gb : g ≠ b := by
    rcases hat with e | e
    · exact (h9 g (mownb h5 e.symm)).2.1
    · omega
  have gS : ∀ q, S q → (∀ r, ta = some ⟨r, 0, none⟩ → q ≠ r) → q ≠ g := fun q hq hn e => by
    subst e
    rcases hat with e | e
    · exact hn q (mownb h5 e.symm) rfl
    · have := h11 q hq; omega
  have sz : (w6.setCell ⟨b, 1, none⟩ (.slice (some ⟨g, 0, none⟩) (T.length + 1) cap)).heap.size = w6.heap.size := by simp [World.setCell]
  have hlen : (T ++ [k]).length = T.length + 1 := by simp
  have hkv : keysV (T ++ [k]) = keysV T ++ [.int .i64 k.1, .string k.2] := keysV_snoc T k
  have raS : ∀ r, ra = some ⟨r, 0, none⟩ → ∀ q, ta = some ⟨q, 0, none⟩ → r ≠ q := fun r e q e2 e3 => (h9 q e2).2.2 (by rw [e, e3])
  refine ⟨⟨some ⟨g, 0, none⟩, cap, ra, rc, ?_, ?_, ?_, fun i => ?_, ?_, ?_, fun x hx => ?_, Or.inl h8, fun q hq => ?_, fun q hq => ⟨Or.inl (h10 q hq).1, (h10 q hq).2⟩, fun q hq => ?_⟩, ?_⟩
  · rw [cset_ne (by omega), cb]; exact h1
  · rw [hlen]; exact cset_at ((cb 1).trans h2)
  · rw [cset_ne (by omega), cb]; exact h3
  · rw [fset_any, World.frozen?_of_block (w := w) ob]; exact h4 i
  · rw [hlen, hkv]
    exact mowns_block0 own (fun q hq => by injection hq with hq; injection hq with hq; subst hq; exact mheap_far gb)
  · refine mowns_block0 h6 (fun r hr => ?_)
    rw [mheap_far (h10 r hr).2]
    exact old r (h11 r (h10 r hr).1) (raS r hr)
  · obtain ⟨y1, y2, y3, y4⟩ := h7 x hx
    refine ⟨holdsK_blocks y1 (fun fb fo e => ?_), y2, y3, fun fb fo e => ⟨Or.inl (y4 fb fo e).1, (y4 fb fo e).2.1, fun e2 => ?_, (y4 fb fo e).2.2.2⟩⟩
    · rw [mheap_far (y4 fb fo e).2.1]
      exact old fb (h11 fb (y4 fb fo e).1) (fun r hr e2 => (y4 fb fo e).2.2.1 (by rw [hr, e2]))
    · injection e2 with e2; injection e2 with e2
      exact gS fb (y4 fb fo e).1 (fun r hr e3 => (y4 fb fo e).2.2.1 (by rw [hr, e3])) e2.symm
  · injection hq with hq; injection hq with hq; subst hq
    refine ⟨Or.inr rfl, gb, fun e => ?_⟩
    exact gS g (h10 g e).1 (raS g e) rfl
  · rw [sz]
    rcases hq with hq | hq
    · have := h11 q hq; omega
    · rw [hq]; exact hlt
  · refine Turn.trans ?_ (Turn.setCell h8)
    exact ⟨hg.os, hg.tape, hg.output, by omega, fun q hq hn => old q hq (fun r e h2 => hn (by rw [h2]; exact (h9 r e).1))⟩
end Go.Proofs.Ytgghbgmeebihbaa
namespace Go.Proofs.Ytgghbgmeebihbaa
open Go.RowKit
set_option linter.unusedVariables false
set_option maxRecDepth 20000
def sliceLen : Value → Nat
  | .slice _ n _ => n
  | _ => 0
/-- told in this call -/
structure TIn (w0 w : World) (b : Nat) (most : Int) (S0 : Nat → Prop) (T : List KV) (L : List SM) (S : Nat → Prop) (oa : Option Addr) (oc : Nat) (out : List KV) : Prop where
  m : MAt w b most T L S
  o : w.ownsRow w0.heap.size 61 2 (.slice oa out.length oc) out.length (keysV out)
  a : ∀ g, oa = some ⟨g, 0, none⟩ → ¬ S g
  s : ∀ k, S k → S0 k ∨ w0.heap.size ≤ k
  t : Turn S0 w0 w
theorem TIn.more {w0 w w' : World} {b : Nat} {most : Int} {S0 : Nat → Prop} {T : List KV} {L : List SM} {S : Nat → Prop} {oa : Option Addr} {oc : Nat} {out : List KV} (h : TIn w0 w b most S0 T L S oa oc out) (hb : Below w.heap.size w w') : TIn w0 w' b most S0 T L S oa oc out :=
  ⟨h.m.below hb, owns_below h.o hb, h.a, h.s, h.t.trans (Turn.of_below hb)⟩
theorem TIn.step {w0 w w' : World} {b : Nat} {most : Int} {S0 : Nat → Prop} {T T' : List KV} {L L' : List SM} {S S' : Nat → Prop} {oa : Option Addr} {oc : Nat} {out : List KV} (h : TIn w0 w b most S0 T L S oa oc out) (m : MAt w' b most T' L' S') (t : Turn S w w') (hs : ∀ k, S' k → S k ∨ w.heap.size ≤ k) : TIn w0 w' b most S0 T' L' S' oa oc out := by
  have hz := h.t.size
  refine ⟨m, mowns_block0 h.o (fun g hg => t.block g ?_ (h.a g hg)), fun g hg hS => ?_, fun k hk => ?_, ?_⟩
  · have := h.o.lt g (by rw [hg]; rfl); exact this.2
  · rcases hs g hS with x | x
    · exact h.a g hg x
    · have := h.o.lt g (by rw [hg]; rfl); omega
  · rcases hs k hk with x | x
    · exact h.s k x
    · exact Or.inr (by omega)
  · exact h.t.trans' t (fun k hk => h.s k hk)
theorem TIn.out {w0 w w6 : World} {b : Nat} {most : Int} {S0 : Nat → Prop} {T : List KV} {L : List SM} {S : Nat → Prop} {oa : Option Addr} {oc g cap : Nat} {out : List KV} {k : KV} {o : Obj} (h : TIn w0 w b most S0 T L S oa oc out)
    (own : w6.ownsRow w0.heap.size 61 2 (.slice (some ⟨g, 0, none⟩) (out.length + 1) cap) (out.length + 1) (keysV out ++ [.int .i64 k.1, .string k.2]))
    (hg : (w.alloc o).grownBy w6 (Value.slice oa out.length oc).ownBlock) (hat : (Value.slice oa out.length oc).ownBlock = some g ∨ g = (w.alloc o).heap.size) : TIn w0 w6 b most S0 T L S (some ⟨g, 0, none⟩) cap (out ++ [k]) := by
  have hza : (w.alloc o).heap.size = w.heap.size + 1 := by simp
  have hz6 := hg.size
  have hz := h.t.size
  have hm := h.m.lt
  have old : ∀ q, q < w.heap.size → (∀ r, oa = some ⟨r, 0, none⟩ → q ≠ r) → w6.heap[q]? = w.heap[q]? := fun q hq hn =>
    (hg.block q (by omega) (fun e => hn q (mownb h.o e) rfl)).trans (Below.heap_alloc _ _ _ (by omega))
  have hS : ∀ q, S q → ∀ r, oa = some ⟨r, 0, none⟩ → q ≠ r := fun q hq r e e2 => h.a r e (by rw [← e2]; exact hq)
  refine ⟨h.m.blocks (by omega) (fun q hq => old q (hm q hq) (hS q hq)), ?_, fun q hq => ?_, h.s, ?_⟩
  · rw [List.length_append, keysV_snoc]; exact own
  · injection hq with hq; injection hq with hq; subst hq
    rcases hat with e | e
    · exact h.a g (mownb h.o e.symm)
    · intro x; have := hm g x; omega
  · refine h.t.trans' (G := fun q => ∃ r, oa = some ⟨r, 0, none⟩ ∧ q = r) ?_ (fun q hq => ?_)
    · exact ⟨hg.os, hg.tape, hg.output, by omega, fun q hq hn => old q hq (fun r e e2 => hn ⟨r, e, e2⟩)⟩
    · obtain ⟨r, e, rfl⟩ := hq
      have := h.o.lt q (by rw [e]; rfl); exact Or.inr this.1
def TellP (w : World) (b : Nat) (most : Int) (S : Nat → Prop) (R : List KV × List SM × List KV) (e : Ending) (w' : World) : Prop :=
  ∃ oa oc L S', e = .returned (.slice oa R.2.2.length oc) ∧ TIn w w' b most S R.1 L S' oa oc R.2.2 ∧ L.map spl = R.2.1
set_option maxHeartbeats 12800000 in
set_option maxRecDepth 100000 in
theorem mtell_any (N : Nat) (b : Nat) {most : Int} {T0 : List KV} {L0 : List SM} {S0 : Nat → Prop} (w : World) (h : MAt w b most T0 L0 S0) (hl : L0.length ≤ 1000) (hN : most ≤ (T0.length : Int) + N) (hN2 : N ≤ 1000) (hT : T0.length ≤ 1000) :
    Calls Try.prog 19 #[.pointer (some ⟨b, 0, none⟩)] w (TellP w b most S0 (tellF most N T0 (L0.map spl) [])) := by
  obtain ⟨i0, hi0, hz0, hz1, hz2⟩ := info_parts item_info
  obtain ⟨R, hR⟩ : ∃ R, tellF most N T0 (L0.map spl) [] = R := ⟨_, rfl⟩
  rw [hR]
  have HR := Lib.hid hR
  have I0 := Lib.hid (show TIn w w b most S0 T0 L0 S0 none 0 [] from ⟨h, World.ownsRow_nil _ _ _ _, fun g hg => (by cases hg), fun k hk => Or.inl hk, Turn.refl _ _⟩)
  have HL := Lib.hid hl
  clear h hR hl
  go_enter Try.func19, Try.ntmps19
  go_wp2_with fail
  go_loopw [3] (fun ov wr => ∃ (k n : Nat) (T : List KV) (L : List SM) (S : Nat → Prop) (oa : Option Addr) (oc : Nat) (out : List KV), ov = .slice oa n oc ∧ n + k = N ∧ out.length = n ∧ Hid (tellF most k T (L.map spl) out = R) ∧ Hid (most ≤ (T.length : Int) + k) ∧ Hid (L.length ≤ 1000) ∧ Hid (T.length ≤ 1000 + n) ∧ Hid (TIn w wr b most S0 T L S oa oc out)) (fun ov _ => N - sliceLen ov)
  case atStart => exact ⟨N, 0, T0, L0, S0, none, 0, [], rfl, by omega, rfl, HR, Lib.hid hN, HL, Lib.hid (by omega), I0⟩
  case round =>
    obtain ⟨k, n, T, L, S, oa, oc, out, rfl, hnk, hol, hF, hM, hLl, hTl, hI⟩ := hrel
    obtain ⟨zd, hzd⟩ : ∃ zd, doneB most T L = zd := ⟨_, rfl⟩
    have CD := Lib.hid (mdone_any zd b wr hI.out.m hLl.out hzd)
    have HZD := Lib.hid hzd
    clear hzd
    go_wp2_with fail
    refine CD.out.mono ?_
    rintro e w2 ⟨rfl, hb2⟩
    have I2 := Lib.hid (hI.out.more hb2)
    clear hb2 CD hI
    have FIN := Lib.hid (fun (hr : R = (T, L.map spl, out)) w' (hi : TIn w w' b most S0 T L S oa oc out) => (show TellP w b most S0 R (.returned (.slice oa n oc)) w' from by
      rw [hr]
      exact ⟨oa, oc, L, S, by rw [hol], hi, rfl⟩))
    cases zd
    case true =>
      have HE := Lib.hid (show R = (T, L.map spl, out) from by
        rw [← hF.out]
        cases k with
        | zero => rfl
        | succ k => unfold tellF; rw [done_spl, HZD.out, if_pos rfl])
      go_wp2_with fail
      go_ret
      exact FIN.out HE.out _ I2.out
    obtain ⟨k, rfl⟩ : ∃ k', k = k' + 1 := by
      refine ⟨k - 1, ?_⟩
      have h1 := HZD.out
      unfold doneB at h1
      have h2 := hM.out
      by_cases hk0 : k = 0
      · subst hk0
        rw [decide_eq_true (by omega)] at h1
        simp at h1
      · omega
    have CH := Lib.hid (mheads_any b w2 I2.out.m hLl.out)
    obtain ⟨hs, hhs⟩ : ∃ hs, headsN L L.length = hs := ⟨_, rfl⟩
    have STEP := Lib.hid (show (if hs = [] then (T, L.map spl, out) else if L.any (prM (firstL hs).2) then (T, L.map spl, out) else tellF most k (T ++ [(firstL hs).2]) ((L.map spl).set (firstL hs).1 (popS ((L.map spl).getD (firstL hs).1 sm0))) (out ++ [(firstL hs).2])) = R from by
      rw [← hF.out]
      conv => rhs; unfold tellF
      rw [done_spl, HZD.out, List.length_map, heads_spl, hhs, may_spl]
      rfl)
    have HM := Lib.hid (fun (x : HD) (hx : x ∈ hs) => heads_mem (L := L) (n := L.length) (by rw [hhs]; exact hx))
    have HLN := Lib.hid (show hs.length ≤ L.length from hhs ▸ headsN_len L _)
    rw [hhs] at CH
    clear hhs
    go_wp2_with fail
    refine CH.out.mono ?_
    rintro e w3 ⟨ha, hc, rfl, hho, hb3⟩
    have I3 := Lib.hid (I2.out.more hb3)
    have HH := Lib.hid (holdsH_own hho)
    clear hb3 CH hho I2
    rcases Nat.eq_zero_or_pos hs.length with hlen0 | hlenp
    · have hs0 : hs = [] := List.eq_nil_of_length_eq_zero hlen0
      have HE := Lib.hid (show R = (T, L.map spl, out) from by rw [← STEP.out, if_pos hs0])
      rw [hlen0]
      clear hs0
      go_wp2_with fail
      refine (mfirst_nil ha hc _).mono ?_
      rintro e w4 ⟨rfl, hb4⟩
      have I4 := Lib.hid ((I3.out.more hb4).more (below_one w4 (.cells #[.int .i64 0, .int .i64 0, .string ⟨#[]⟩] 84)))
      clear hb4
      go_wp2_with fail
      go_ret
      exact FIN.out HE.out _ I4.out
    · have CF := Lib.hid (mfirst_any ha hs.length hc hs w3 HH.out hlenp (by have := HLN.out; have := hLl.out; omega))
      have hsn : hs ≠ [] := fun e => by rw [e] at hlenp; simp at hlenp
      have HHD := Lib.hid (HM.out _ (first_mem hsn))
      have STEP2 := STEP.out
      rw [if_neg hsn] at STEP2
      obtain ⟨⟨fi, fk⟩, hfst⟩ : ∃ f, firstL hs = f := ⟨_, rfl⟩
      rw [hfst] at CF HHD STEP2
      have ST := Lib.hid STEP2
      clear STEP2 hfst hsn STEP
      go_wp2_with fail
      refine CF.out.mono ?_
      rintro e w4 ⟨rfl, hb4⟩
      have I4 := Lib.hid ((I3.out.more hb4).more (below_one w4 (.cells #[.int .i64 (fi : Int), .int .i64 fk.1, .string fk.2] 84)))
      have E4 := Lib.hid (heIn_new w4 (fi, fk) w4.heap.size 84 (0, 0) rfl)
      have QN := Lib.hid (show ¬ S w4.heap.size from fun hs => by have := (I3.out.more hb4).m.lt _ hs; omega)
      clear hb4 CF I3
      go_upto_region 6 with fail
      generalize w4.alloc (.cells #[.int .i64 (fi : Int), .int .i64 fk.1, .string fk.2] 84) = w5 at *
      generalize w4.heap.size = q at *
      obtain ⟨e0, e1, e2⟩ := E4.out
      simp only at e0 e1 e2
      obtain ⟨zm, hzm⟩ : ∃ zm, L.any (prM fk) = zm := ⟨_, rfl⟩
      have CM := Lib.hid (mmay_any fk zm b w5 I4.out.m hLl.out hzm)
      have HZM := Lib.hid hzm
      clear hzm
      go_wp2_with fail
      refine CM.out.mono ?_
      rintro e w6 ⟨rfl, hb6⟩
      have I6 := Lib.hid (I4.out.more hb6)
      have E6 := Lib.hid (E4.out.below hb6)
      clear hb6 CM e0 e1 e2 I4 E4
      cases zm
      case true =>
        have HE := Lib.hid (show R = (T, L.map spl, out) from by rw [← ST.out, HZM.out, if_pos rfl])
        go_wp2_with fail
        go_ret
        exact FIN.out HE.out _ I6.out
      have ST2 := Lib.hid (show tellF most k (T ++ [fk]) ((L.map spl).set fi (popS ((L.map spl).getD fi sm0))) (out ++ [fk]) = R from by rw [← ST.out, HZM.out]; rfl)
      have hxm := mem_sm (L := L) HHD.out.1
      obtain ⟨ta, tc, ra, rc, M⟩ := I6.out.m
      obtain ⟨m1, m2, m3, m4, m5, m6, m7, m8, m9, m10, m11⟩ := M
      obtain ⟨g, rfl⟩ : ∃ g, ra = some ⟨g, 0, none⟩ := by
        obtain ⟨g, cap', hv⟩ := Joins.ownsRow_form m6 (by have := HHD.out.1; omega)
        simp only [Value.slice.injEq] at hv
        exact ⟨g, hv.1⟩
      have MD := Lib.hid (show MMid w6 b most ta tc (some ⟨g, 0, none⟩) rc T L S from ⟨m1, m2, m3, m4, m5, m6, m7, m8, m9, m10, m11⟩)
      have hwt := m7 _ hxm
      obtain ⟨x, hx⟩ : ∃ x, L.getD fi sm0 = x := ⟨_, rfl⟩
      have h0 := HHD.out.2.1
      rw [hx] at h0 hwt
      have hc6 : w6.cell? ⟨g, fi * 7 + 6, none⟩ = some (.slice x.wa x.wn x.wc) := by
        have h := (m6.cellAt (fi * 7 + 6) (by have := HHD.out.1; omega)).trans (smV_at L fi HHD.out.1).2.2.2.2.2.2
        rw [hx] at h; exact h
      have hf6 : w6.frozen? ⟨g, fi * 7 + 6, none⟩ = false := m6.frozenAt _
      obtain ⟨k1, k2, k3, k4⟩ := hwt
      have WT := Lib.hid (show WtIn w6 S b ta (some ⟨g, 0, none⟩) x from ⟨k1, k2, k3, k4⟩)
      obtain ⟨fb, fo, ha, -⟩ := k1.2 h0
      obtain ⟨least, ended, seq, rcv, last, wa, wn, wc, wait⟩ := x
      simp only at ha h0 k3 hc6
      subst ha
      obtain ⟨n0, rfl⟩ : ∃ n0, wn = n0 + 1 := ⟨wn - 1, by omega⟩
      obtain ⟨c0, rfl⟩ : ∃ c0, wc = c0 + 1 := ⟨wc - 1, by omega⟩
      obtain ⟨e0, e1, e2⟩ := E6.out
      simp only at e0 e1 e2
      have i1 : (0 : Int) ≤ (fi : Int) := by omega
      have i2 : (fi : Int) < (L.length : Int) := by have := HHD.out.1; omega
      have M0 := Lib.hid m1
      have M1 := Lib.hid (show w6.cell? ⟨b, 1, none⟩ = some (.slice ta T.length tc) ∧ w6.frozen? ⟨b, 1, none⟩ = false from ⟨m2, m4 1⟩)
      have HX := Lib.hid hx
      clear m1 m2 m4 m5 m6 m7 m8 m9 m10 m11 k1 k2 k4 h0 hx hxm
      go_upto_region 8 with fail
      go_quiet (fail)
      go_upto_region 9 with fail
      have hil : fi < L.length := HHD.out.1
      have hx := HX.out
      have hset := smV_wait L fi (if c0 = 0 then some ⟨fb, fo, none⟩ else some ⟨fb, fo + 2, none⟩) n0 c0 wait.tail hil
      rw [hx] at hset
      have own := ((owns_below MD.out.2.2.2.2.2.1 (below_drewN w6 nq)).stored (fi * 7 + 6) (.slice (if c0 = 0 then some ⟨fb, fo, none⟩ else some ⟨fb, fo + 2, none⟩) n0 c0)).1
      rw [hset] at own
      have PT := Lib.hid (MD.out.put (below_drewN w6 nq) (Turn.setCell rfl) own (by simp) (fun y hy => by
        rcases List.mem_or_eq_of_mem_set hy with hy | rfl
        · obtain ⟨y1, y2, y3, y5⟩ := MD.out.2.2.2.2.2.2.1 y hy
          exact ⟨y1.below (below_drewN w6 nq), y2, y3, fun fb fo e => Or.inl ⟨(y5 fb fo e).1, (y5 fb fo e).2.1, (y5 fb fo e).2.2.1, fun e2 => (y5 fb fo e).2.2.2 (by rw [e2])⟩⟩
        · obtain ⟨y1, y2, y3, y5⟩ := WT.out
          simp only at y1 y5
          refine ⟨holdsK_tail (y1.below (below_drewN w6 nq)) (by omega) (fun h => ?_), fun e => ?_, by simp only; omega, fun fb' fo' e => Or.inl ?_⟩
          · rw [if_neg (by omega)]
          · simp only at e; split at e <;> cases e
          · have e2 : fb' = fb := by simp only at e; split at e <;> (injection e with e; injection e with e; exact e.symm)
            subst e2
            have := y5 fb' fo rfl
            exact ⟨this.1, this.2.1, this.2.2.1, fun e => this.2.2.2 (by rw [e])⟩))
      have QN8 := Lib.hid (show ¬ (fun k => S k ∨ (w6.heap.size ≤ k ∧ k < (w6.drewN nq).heap.size)) q from fun hh => by
        rcases hh with hh | hh
        · exact QN.out hh
        · have h1 : q < w6.heap.size := lt_of_cell e0
          omega)
      have QL := Lib.hid (show q < w6.heap.size from lt_of_cell e0)
      have I8 := Lib.hid (I6.out.step PT.out.1 PT.out.2 (fun k hk => hk.imp id (fun hh => hh.1)))
      have E8 := Lib.hid (show HeIn _ q (fi, fk) from E6.out.of (fun i => PT.out.2.cell (o := i) QL.out QN.out))
      have Z8 := Lib.hid PT.out.2.size
      have SPL := Lib.hid (show (L.set fi ⟨least, ended, seq, rcv, last, if c0 = 0 then some ⟨fb, fo, none⟩ else some ⟨fb, fo + 2, none⟩, n0, c0, wait.tail⟩).map spl = (L.map spl).set fi (popS ((L.map spl).getD fi sm0)) from by
        rw [getD_spl, hx, List.map_set]; rfl)
      have LEN := Lib.hid (show (L.set fi ⟨least, ended, seq, rcv, last, if c0 = 0 then some ⟨fb, fo, none⟩ else some ⟨fb, fo + 2, none⟩, n0, c0, wait.tail⟩).length = L.length from by simp)
      subst hol
      clear hset own hx m3 hc6 hf6 M1 M0 MD WT E6 I6 e0 e1 e2 PT hil HX
      generalize (w6.drewN nq).setCell ⟨g, fi * 7 + 6, none⟩ (.slice (if c0 = 0 then some ⟨fb, fo, none⟩ else some ⟨fb, fo + 2, none⟩) n0 c0) = w8 at *
      generalize (fun k => S k ∨ (w6.heap.size ≤ k ∧ k < (w6.drewN nq).heap.size)) = S8 at *
      generalize L.set fi ⟨least, ended, seq, rcv, last, if c0 = 0 then some ⟨fb, fo, none⟩ else some ⟨fb, fo + 2, none⟩, n0, c0, wait.tail⟩ = L8 at *
      obtain ⟨ta, tc, ra, rc, M⟩ := I8.out.m
      obtain ⟨e0, e1, e2⟩ := E8.out
      simp only at e0 e1 e2
      obtain ⟨m1, m2, m3, m4, m5, m6, m7, m8, m9, m10, m11⟩ := M
      have MD := Lib.hid (show MMid w8.drew b most ta tc ra rc T L8 S8 from ⟨m1, m2, m3, m4, m5, m6, m7, m8, m9, m10, m11⟩)
      have OW := Lib.hid (show w8.drew.ownsRow 0 61 2 (.slice ta T.length tc) T.length (keysV T) from owns_below m5 (Below.refl _ _).drew)
      have AB := Lib.hid (show ∀ o w', (w8.drew.alloc o).grownBy w' (Value.slice ta T.length tc).ownBlock → w'.cell? ⟨b, 1, none⟩ = some (.slice ta T.length tc) ∧ w'.frozen? ⟨b, 1, none⟩ = false from fun o w' hg => by
        have lb := m11 b m8
        have ob := ((hg.block b (by simp; omega) (fun e => (m9 b (mownb m5 e)).2.1 rfl)).trans (Below.heap_alloc _ _ _ lb))
        exact ⟨(World.cell?_of_block (w := w8) ob).trans m2, (World.frozen?_of_block (w := w8) ob).trans (m4 1)⟩)
      have HG := Lib.hid (show ∀ g3, ((Value.slice ta T.length tc).ownBlock = some g3 ∨ g3 = w8.drew.heap.size + 1) → S8 g3 ∨ w8.drew.heap.size ≤ g3 from fun g3 h => by
        rcases h with h | h
        · exact Or.inl (m9 g3 (mownb m5 h.symm)).1
        · exact Or.inr (by omega))
      have HTL := Lib.hid hTl.out
      have htl : T.length ≤ 2000 := by have := hTl.out; omega
      clear m1 m3 m4 m5 m6 m7 m8 m9 m10 m11
      have n1 : w8.drew.cell? ⟨b, 1, none⟩ = some (.slice ta T.length tc) := m2
      have n2 : w8.drew.cell? ⟨q, 1, none⟩ = some (.int .i64 fk.1) := e1
      have n3 : w8.drew.cell? ⟨q, 2, none⟩ = some (.string fk.2) := e2
      have n4 : (w8.alloc (.cells #[.int .i64 fk.1, .string fk.2] 61)).drew.cell? ⟨b, 1, none⟩ = some (.slice ta T.length tc) := (Below.cell (below_one w8 _) (p := ⟨b, 1, none⟩) (lt_of_cell m2)).trans m2
      have n5 : (w8.alloc (.cells #[.int .i64 fk.1, .string fk.2] 61)).cell? ⟨b, 1, none⟩ = some (.slice ta T.length tc) := n4
      go_region_law
        (refine step_append_lies _ (by rfl) _ _ _ (by rfl) 0 61 i0 _ 2 24 Try.underlying34 hi0 hz0 hz1 hz2 rfl (by omega) (.slice ta T.length tc) T.length (keysV T) (by rfl) (OW.out.alloc _) ⟨w8.drew.heap.size, 0, none⟩ 1 1 [.int .i64 fk.1, .string fk.2] (by rfl) (by rfl) (World.news_of_block (cs := #[.int .i64 fk.1, .string fk.2]) (t := 61) (fr := (0, 0)) (heap_alloc_new w8.drew _)) (by simp [Value.oneCell']) (by omega) (by unfold maxLen; omega) (by omega) (by omega) (w8.drew.heap.size + 1) (by simp) ?_; intro g3 c3 w9 hown9 hgrow9 hat9 hlt9; obtain ⟨x0, x1⟩ := AB.out _ _ hgrow9)
      all_goals
        have GT := MMid.told (k := fk) MD.out hown9 hgrow9 (hat9.imp id (fun e => by simp; exact e)) hlt9
        have I9 := Lib.hid ((I8.out.more (Below.refl _ _).drew).step GT.1 GT.2 (fun k hk => hk.elim Or.inl (fun e => by rw [e]; exact HG.out g3 hat9)))
        have E9 := Lib.hid (show HeIn _ q (fi, fk) from E8.out.of (fun i => GT.2.cell (o := i) (show q < w8.drew.heap.size from lt_of_cell n2) QN8.out))
        clear GT hown9 hgrow9 hat9 hlt9 x0 x1 m2 e0 e1 e2 n1 n2 n3 n4 n5 I8 E8 MD OW AB HG QN8
        generalize w9.setCell ⟨b, 1, none⟩ (.slice (some ⟨g3, 0, none⟩) (T.length + 1) c3) = w10 at *
        obtain ⟨e0, e1, e2⟩ := E9.out
        simp only at e0 e1 e2
        have OO := Lib.hid I9.out.o
        have OT := Lib.hid I9.out.t.size
        go_wp2_with (at_builtin; refine wpList_append_lies _ rfl (.tmp 52) (.tmp 55) 34 rfl w.heap.size 61 i0 _ 2 24 Try.underlying34 hi0 hz0 hz1 hz2 rfl (by omega) (.slice oa out.length oc) out.length (keysV out) (by rfl) (OO.out.alloc _) ⟨w10.heap.size, 0, none⟩ 1 1 [.int .i64 fk.1, .string fk.2] (by rfl) (by rfl) (World.news_of_block (cs := #[.int .i64 fk.1, .string fk.2]) (t := 61) (fr := (0, 0)) (heap_alloc_new w10 _)) (by simp [Value.oneCell']) (by omega) (by unfold maxLen; omega) (by omega) (by have := OT.out; simp; omega) (w10.heap.size + 1) (by simp) ?_; intro g4 c4 w11 hown11 hgrow11 hat11 hlt11)
        have I11 := Lib.hid (I9.out.out hown11 hgrow11 (hat11.imp id (fun e => by simp; exact e)))
        go_roundw
        case rel => exact ⟨k, out.length + 1, T ++ [fk], L8, _, some ⟨g4, 0, none⟩, c4, out ++ [fk], rfl, by omega, by simp, Lib.hid (by rw [SPL.out]; exact ST2.out), Lib.hid (by have := hM.out; simp; omega), Lib.hid (by rw [LEN.out]; exact hLl.out), Lib.hid (by have := HTL.out; simp; omega), I11⟩
        case measure => simp only [sliceLen]; omega
end Go.Proofs.Ytgghbgmeebihbaa
namespace Go.Proofs.Ytgghbgmeebihbaa
open Go.RowKit
set_option linter.unusedVariables false
set_option maxRecDepth 20000
def putB (most : Int) (T : List KV) (L : List SM) (s q : Int) (ks : List KV) (en : Bool) : Bool :=
  decide (0 ≤ s ∧ s < (L.length : Int)) && (!doneB most T L && (prW (L.getD s.toNat sm0) && (decide (q = (L.getD s.toNat sm0).seq) && (fitsB (L.getD s.toNat sm0) ks && !(decide (ks.length = 0) && !en)))))
def putM (x : SM) (wa : Option Addr) (wn wc : Nat) (ks : List KV) (en : Bool) : SM := ⟨x.least, en, x.seq + 1, x.rcv || decide (0 < ks.length), if 0 < ks.length then ks.getD (ks.length - 1) k0 else x.last, wa, wn, wc, ks⟩
def PutP (w : World) (b : Nat) (most : Int) (T : List KV) (L : List SM) (S : Nat → Prop) (s : Int) (ks : List KV) (en z : Bool) (e : Ending) (w' : World) : Prop :=
  e = .returned (.bool z) ∧ if z then ∃ wa wc S', MAt w' b most T (L.set s.toNat (putM (L.getD s.toNat sm0) wa ks.length wc ks en)) S' ∧ (∀ k, S' k → S k ∨ w.heap.size ≤ k) ∧ Turn S w w' else Below w.heap.size w w'
theorem putP_no {w w' : World} {b : Nat} {most : Int} {T : List KV} {L : List SM} {S : Nat → Prop} {s : Int} {ks : List KV} {en z : Bool} (hz : z = false) (hb : Below w.heap.size w w') : PutP w b most T L S s ks en z (.returned (.bool false)) w' := by
  subst hz
  exact ⟨rfl, hb⟩
set_option maxHeartbeats 12800000 in
set_option maxRecDepth 100000 in
theorem mput_any (s q : Int) (ia : Option Addr) (n ic : Nat) (ks : List KV) (en z : Bool) (b : Nat) {most : Int} {T : List KV} {L : List SM} {S : Nat → Prop} (w : World) (h : MAt w b most T L S) (hl : L.length ≤ 1000)
    (hi : HoldsK w ia n ks) (hin : ia = none → n = 0 ∧ ic = 0) (hn : n ≤ 9223372036854775807) (hiS : 0 < n → ∀ fb fo, ia = some ⟨fb, fo, none⟩ → ¬ S fb) (hsq : ∀ x ∈ L, 0 ≤ x.seq ∧ x.seq ≤ 1000000000) (hz : putB most T L s q ks en = z) :
    Calls Try.prog 15 #[.pointer (some ⟨b, 0, none⟩), .int .i64 s, .int .i64 q, .slice ia n ic, .bool en] w (PutP w b most T L S s ks en z) := by
  obtain ⟨zr, hzr⟩ : ∃ zr, decide (0 ≤ s ∧ s < (L.length : Int)) = zr := ⟨_, rfl⟩
  obtain ⟨zd, hzd⟩ : ∃ zd, doneB most T L = zd := ⟨_, rfl⟩
  unfold putB at hz
  rw [hzr, hzd] at hz
  have HI := Lib.hid hi; have HIN := Lib.hid hin; have HIS := Lib.hid hiS
  have CH := Lib.hid (mhas_any s zr b w h hl hzr)
  have CD := Lib.hid (mdone_any zd b w h hl hzd)
  have H := Lib.hid h
  have HZ := Lib.hid hz; have HZR := Lib.hid hzr
  have HSQ := Lib.hid hsq
  have KL := Lib.hid hi.1
  clear h hi hin hiS hz hzr hzd hsq
  go_enter Try.func15, Try.ntmps15
  go_wp2_with fail
  refine CH.out.mono ?_
  rintro e w' ⟨rfl, rfl⟩
  cases zr
  · go_wp2_with fail
    go_ret
    exact putP_no (by rw [← HZ.out]; rfl) (Below.refl _ _)
  go_wp2_with fail
  refine CD.out.mono ?_
  rintro e w2 ⟨rfl, hb2⟩
  have B2 := Lib.hid hb2
  have M2 := Lib.hid (H.out.below hb2)
  clear hb2 CH CD
  cases zd
  case true =>
    go_wp2_with fail
    go_ret
    exact putP_no (by rw [← HZ.out]; rfl) B2.out
  have hsr := of_decide_eq_true HZR.out
  obtain ⟨i, rfl⟩ : ∃ i : Nat, s = (i : Int) := ⟨s.toNat, by omega⟩
  have hil : i < L.length := by omega
  have hz2 := HZ.out
  rw [Int.toNat_natCast, Bool.true_and, Bool.not_false, Bool.true_and] at hz2
  obtain ⟨x, hx⟩ : ∃ x, L.getD i sm0 = x := ⟨_, rfl⟩
  rw [hx] at hz2
  have HX := Lib.hid hx
  have hxm : x ∈ L := hx ▸ mem_sm hil
  have hsq := HSQ.out x hxm
  have HXM := Lib.hid hxm
  obtain ⟨ta, tc, ra, rc, MM⟩ := M2.out
  obtain ⟨m1, m2, m3, m4, m5, m6, m7, m8, m9, m10, m11⟩ := MM
  obtain ⟨g, rfl⟩ : ∃ g, ra = some ⟨g, 0, none⟩ := by
    obtain ⟨g, cap', hv⟩ := Joins.ownsRow_form m6 (by omega)
    simp only [Value.slice.injEq] at hv
    exact ⟨g, hv.1⟩
  have MD := Lib.hid (show MMid w2 b most ta tc (some ⟨g, 0, none⟩) rc T L S from ⟨m1, m2, m3, m4, m5, m6, m7, m8, m9, m10, m11⟩)
  have SX := Lib.hid (show SmAt w2 g (i * 7) x from by
    obtain ⟨bb, oo, hbe, hc⟩ := (holdsS_own m6).2 (by omega)
    injection hbe with hbe; injection hbe with e1 e2; subst e1 e2
    have := hc i hil
    rw [hx, Nat.zero_add] at this
    exact this)
  obtain ⟨zw, hzw⟩ : ∃ zw, prW x = zw := ⟨_, rfl⟩
  obtain ⟨zf, hzf⟩ : ∃ zf, fitsB x ks = zf := ⟨_, rfl⟩
  rw [hzw, hzf] at hz2
  have CW := Lib.hid (wantsM_any g (i * 7) x zw w2 SX.out hzw)
  have CF := Lib.hid (mfits_any g (i * 7) x ia n ic ks zf w2 SX.out (HI.out.below B2.out) hn hzf)
  have i1 : (0 : Int) ≤ (i : Int) := by omega
  have i2 : (i : Int) < (L.length : Int) := by omega
  have HZ2 := Lib.hid hz2
  have HZF := Lib.hid hzf
  clear hx hxm hz2 hzw hzf m1 m2 m4 m5 m6 m7 m8 m9 m10 m11 hsr HZ
  go_wp2_with fail
  refine CW.out.mono ?_
  rintro e w' ⟨rfl, rfl⟩
  clear CW m3
  obtain ⟨-, -, c2, -⟩ := SX.out
  cases zw
  · go_wp2_with fail
    go_ret
    exact putP_no (by rw [← HZ2.out]; rfl) B2.out
  by_cases hq : q = x.seq
  case neg =>
    have d1 : (q != x.seq) = true := by simpa using hq
    have HF := Lib.hid (show z = false from by rw [← HZ2.out, decide_eq_false hq]; rfl)
    clear hq
    go_wp2_with fail
    go_ret
    exact putP_no HF.out B2.out
  subst hq
  have d1 : (x.seq != x.seq) = false := by simp
  go_wp2_with fail
  refine CF.out.mono ?_
  rintro e w3 ⟨rfl, hb3⟩
  have B3 := Lib.hid (B2.out.trans (hb3.mono B2.out.size))
  have B23 := Lib.hid hb3
  clear hb3 CF c2
  have HZ3 := Lib.hid (show (zf && !(decide (ks.length = 0) && !en)) = z from by have := HZ2.out; simpa using this)
  cases zf
  · go_wp2_with fail
    go_ret
    exact putP_no (by rw [← HZ3.out]; rfl) B3.out
  have hn5 : n ≤ 5 := by
    have := HZF.out
    unfold fitsB at this
    have h2 := (Bool.and_eq_true _ _ ▸ this).1
    have := of_decide_eq_true h2
    have := KL.out; omega
  have O3 := Lib.hid (owns_below MD.out.2.2.2.2.2.1 B23.out)
  obtain ⟨v0, v1, v2, v3, v4, v5, v6⟩ := smV_at L i hil
  rw [HX.out] at v0 v1 v2 v3 v4 v5 v6
  have VV := Lib.hid (show ∀ w', Below w3.heap.size w3 w' → w'.cell? ⟨g, i * 7 + 1, none⟩ = some (.bool x.ended) ∧ w'.cell? ⟨g, i * 7 + 2, none⟩ = some (.int .i64 x.seq) ∧ w'.cell? ⟨g, i * 7 + 3, none⟩ = some (.bool x.rcv) ∧ w'.cell? ⟨g, i * 7 + 4, none⟩ = some (.int .i64 x.last.1) ∧ w'.cell? ⟨g, i * 7 + 5, none⟩ = some (.string x.last.2) ∧ w'.cell? ⟨g, i * 7 + 6, none⟩ = some (.slice x.wa x.wn x.wc) ∧ w'.ownsRow 0 75 7 (.slice (some ⟨g, 0, none⟩) L.length rc) L.length (smV L) ∧ ∀ k, w'.frozen? ⟨g, k, none⟩ = false from fun w' hb => by
    have o := owns_below O3.out hb
    exact ⟨(o.cellAt (i * 7 + 1) (by omega)).trans v1, (o.cellAt (i * 7 + 2) (by omega)).trans v2, (o.cellAt (i * 7 + 3) (by omega)).trans v3, (o.cellAt (i * 7 + 4) (by omega)).trans v4, (o.cellAt (i * 7 + 5) (by omega)).trans v5, (o.cellAt (i * 7 + 6) (by omega)).trans v6, o, fun k => o.frozenAt k⟩)
  have hw1 : IntKind.i64.wrap (x.seq + 1) = x.seq + 1 := IntWalk.i64_in _ (by omega)
  have CC := Lib.hid (cloneI_any ia n ic ks w3 (HI.out.below B3.out) HIN.out (by omega))
  have GS := Lib.hid (show S g ∧ g ≠ b from MD.out.2.2.2.2.2.2.2.2.2.1 g rfl)
  clear v0 v1 v2 v3 v4 v5 v6
  rcases Nat.eq_zero_or_pos n with rfl | hnp
  · obtain rfl : ks = [] := List.eq_nil_of_length_eq_zero KL.out
    cases en
    · go_wp2_with fail
      go_ret
      exact putP_no (by rw [← HZ3.out]; rfl) B3.out
    · go_wp2_with fail
      refine CC.out.mono ?_
      rintro e w4 ⟨wa, wc, rfl, ho, hb4⟩
      obtain ⟨u1, u2, u3, u4, u5, u6, o4, fz⟩ := VV.out _ hb4
      have O4 := Lib.hid o4
      have HO := Lib.hid ho
      have B24 := Lib.hid (B23.out.trans (hb4.mono B23.out.size))
      have f1 := fz (i * 7 + 1); have f2 := fz (i * 7 + 2); have f6 := fz (i * 7 + 6)
      clear o4 ho hb4 CC fz
      go_wp2_with fail
      go_ret
      have own := (((O4.out.stored (i * 7 + 6) (.slice wa 0 wc)).1.stored (i * 7 + 2) (.int .i64 (x.seq + 1))).1.stored (i * 7 + 1) (.bool true)).1
      have hset := smV_put1 L i wa 0 wc (x.seq + 1) true [] hil
      rw [HX.out] at hset
      rw [hset] at own
      have T5 : Turn (fun k => k = g) w4 (((w4.setCell ⟨g, i * 7 + 6, none⟩ (.slice wa 0 wc)).setCell ⟨g, i * 7 + 2, none⟩ (.int .i64 (x.seq + 1))).setCell ⟨g, i * 7 + 1, none⟩ (.bool true)) := mturn_set (mturn_set (mturn_set (Turn.refl _ _) rfl) rfl) rfl
      have PT := MD.out.put B24.out T5 own (by simp) (fun y hy => by
        rcases List.mem_or_eq_of_mem_set hy with hy | rfl
        · obtain ⟨y1, y2, y3, y5⟩ := MD.out.2.2.2.2.2.2.1 y hy
          exact ⟨y1.below B24.out, y2, y3, fun fb fo e => Or.inl ⟨(y5 fb fo e).1, (y5 fb fo e).2.1, (y5 fb fo e).2.2.1, fun e2 => (y5 fb fo e).2.2.2 (by rw [e2])⟩⟩
        · have hnn := owns_none HO.out
          exact ⟨HoldsK.own HO.out, hnn.1, hnn.2, fun fb fo e => Or.inr ⟨Nat.le_trans B23.out.size (own_block HO.out e).1, (own_block HO.out e).2⟩⟩)
      have hz1 : z = true := by rw [← HZ3.out]; rfl
      subst hz1
      refine ⟨rfl, wa, wc, (fun k => S k ∨ (w2.heap.size ≤ k ∧ k < w4.heap.size)), ?_, fun k hk => Or.imp id (fun hh => Nat.le_trans B2.out.size hh.1) hk, (Turn.of_below B2.out).trans PT.2⟩
      rw [Int.toNat_natCast, HX.out]
      have hp : putM x wa ([] : List KV).length wc [] true = ⟨x.least, true, x.seq + 1, x.rcv, x.last, wa, 0, wc, []⟩ := by unfold putM; simp
      rw [hp]
      exact PT.1
  · obtain ⟨m, rfl⟩ : ∃ m, n = m + 1 := ⟨n - 1, by omega⟩
    have z0 : (((m + 1 : Nat) : Int) == 0) = false := by simp; omega
    have z0' : ((m : Int) + 1 == 0) = false := by simp; omega
    have z1 : decide (((m + 1 : Nat) : Int) > 0) = true := decide_eq_true (by omega)
    have z2 : decide (0 < m + 1) = true := decide_eq_true (by omega)
    have hm1 : IntKind.i64.wrap (m : Int) = (m : Int) := IntWalk.i64_in _ (by omega)
    have g4 : (0 : Int) ≤ (m : Int) := by omega
    have g5 : (m : Int) < ((m + 1 : Nat) : Int) := by omega
    have g6 : (m : Int) < (m : Int) + 1 := by omega
    obtain ⟨l, hll⟩ : ∃ l, ks.getD m k0 = l := ⟨_, rfl⟩
    have HLL := Lib.hid hll
    obtain ⟨fb, fo, rfl, hkc⟩ := HI.out.2 (by omega)
    obtain ⟨yy0, yy1⟩ := hkc m (by omega)
    rw [hll] at yy0 yy1
    have FNE := Lib.hid (show fb ≠ g from fun e => HIS.out (by omega) fb fo rfl (by rw [e]; exact GS.out.1))
    have YY := Lib.hid (show ∀ w', Below w.heap.size w w' → w'.cell? ⟨fb, fo + m * 2, none⟩ = some (.int .i64 l.1) ∧ w'.cell? ⟨fb, fo + m * 2 + 1, none⟩ = some (.string l.2) from fun w' hb => ⟨(hb.cell (p := ⟨fb, fo + m * 2, none⟩) (lt_of_cell yy0)).trans yy0, (hb.cell (p := ⟨fb, fo + m * 2 + 1, none⟩) (lt_of_cell yy0)).trans yy1⟩)
    have HZ4 := Lib.hid (show z = true from by rw [← HZ3.out, KL.out, decide_eq_false (by omega)]; rfl)
    clear hkc yy0 yy1 hll
    cases en
    all_goals
      go_wp2_with fail
      refine CC.out.mono ?_
      rintro e w4 ⟨wa, wc, rfl, ho, hb4⟩
      rw [KL.out] at ho
      rw [KL.out]
      obtain ⟨u1, u2, u3, u4, u5, u6, o4, fz⟩ := VV.out _ hb4
      have O4 := Lib.hid o4
      have HO := Lib.hid ho
      have B24 := Lib.hid (B23.out.trans (hb4.mono B23.out.size))
      have B4 := Lib.hid (B3.out.trans (hb4.mono B3.out.size))
      have f1 := fz (i * 7 + 1); have f2 := fz (i * 7 + 2); have f3 := fz (i * 7 + 3); have f4 := fz (i * 7 + 4); have f5 := fz (i * 7 + 5); have f6 := fz (i * 7 + 6)
      have FF4 := Lib.hid fz
      have U := Lib.hid (show (w4.cell? ⟨g, i * 7 + 1, none⟩ = some (.bool x.ended) ∧ w4.cell? ⟨g, i * 7 + 2, none⟩ = some (.int .i64 x.seq)) ∧ (w4.cell? ⟨g, i * 7 + 3, none⟩ = some (.bool x.rcv) ∧ w4.cell? ⟨g, i * 7 + 4, none⟩ = some (.int .i64 x.last.1) ∧ w4.cell? ⟨g, i * 7 + 5, none⟩ = some (.string x.last.2)) from ⟨⟨u1, u2⟩, u3, u4, u5⟩)
      clear o4 ho hb4 CC fz u1 u2 u3 u4 u5 f1 f2 f3 f4 f5
      go_upto_region 7 with fail
      have O5 := Lib.hid (O4.out.stored (i * 7 + 6) (.slice wa (m + 1) wc)).1
      have T5 := Lib.hid (show Turn (fun k => k = g) w4 (w4.setCell ⟨g, i * 7 + 6, none⟩ (.slice wa (m + 1) wc)) from mturn_set (Turn.refl _ _) rfl)
      have u1 := (cset_ne (w := w4) (b := g) (o := i * 7 + 6) (p := i * 7 + 1) (v := .slice wa (m + 1) wc) (by omega)).trans U.out.1.1
      have u2 := (cset_ne (w := w4) (b := g) (o := i * 7 + 6) (p := i * 7 + 2) (v := .slice wa (m + 1) wc) (by omega)).trans U.out.1.2
      have u3 := (cset_ne (w := w4) (b := g) (o := i * 7 + 6) (p := i * 7 + 3) (v := .slice wa (m + 1) wc) (by omega)).trans U.out.2.1
      have u4 := (cset_ne (w := w4) (b := g) (o := i * 7 + 6) (p := i * 7 + 4) (v := .slice wa (m + 1) wc) (by omega)).trans U.out.2.2.1
      have u5 := (cset_ne (w := w4) (b := g) (o := i * 7 + 6) (p := i * 7 + 5) (v := .slice wa (m + 1) wc) (by omega)).trans U.out.2.2.2
      obtain ⟨r0, r1⟩ := YY.out w4 B4.out
      have q0 := (cset_far (w := w4) (b := g) (c := fb) (o := i * 7 + 6) (p := fo + m * 2) (v := .slice wa (m + 1) wc) (fun e => FNE.out e.symm)).trans r0
      have q1 := (cset_far (w := w4) (b := g) (c := fb) (o := i * 7 + 6) (p := fo + m * 2 + 1) (v := .slice wa (m + 1) wc) (fun e => FNE.out e.symm)).trans r1
      have fz := fun k => (fset_any (w := w4) (a := ⟨g, i * 7 + 6, none⟩) (v := .slice wa (m + 1) wc) (p := ⟨g, k, none⟩)).trans (FF4.out k)
      have f1 := fz (i * 7 + 1); have f2 := fz (i * 7 + 2); have f3 := fz (i * 7 + 3); have f4 := fz (i * 7 + 4); have f5 := fz (i * 7 + 5)
      clear u6 f6 U r0 r1 fz
      generalize hw5 : w4.setCell ⟨g, i * 7 + 6, none⟩ (.slice wa (m + 1) wc) = w5 at *
      clear hw5
      go_wp2_with fail
      go_ret
      have hset := fun en => smV_put2 L i wa (m + 1) wc l (x.seq + 1) en ks hil
      rw [HX.out] at hset
      have own := fun en => (((((O5.out.stored (i * 7 + 4) (.int .i64 l.1)).1.stored (i * 7 + 5) (.string l.2)).1.stored (i * 7 + 3) (.bool true)).1.stored (i * 7 + 2) (.int .i64 (x.seq + 1))).1.stored (i * 7 + 1) (.bool en)).1
      simp only [hset] at own
      have PT := fun en => MD.out.put B24.out (T5.out.trans (show Turn (fun k => k = g) w5 (((((w5.setCell ⟨g, i * 7 + 4, none⟩ (.int .i64 l.1)).setCell ⟨g, i * 7 + 5, none⟩ (.string l.2)).setCell ⟨g, i * 7 + 3, none⟩ (.bool true)).setCell ⟨g, i * 7 + 2, none⟩ (.int .i64 (x.seq + 1))).setCell ⟨g, i * 7 + 1, none⟩ (.bool en)) from mturn_set (mturn_set (mturn_set (mturn_set (mturn_set (Turn.refl _ _) rfl) rfl) rfl) rfl) rfl)) (own en) (by simp) (fun y hy => by
        rcases List.mem_or_eq_of_mem_set hy with hy | rfl
        · obtain ⟨y1, y2, y3, y5⟩ := MD.out.2.2.2.2.2.2.1 y hy
          exact ⟨y1.below B24.out, y2, y3, fun fb fo e => Or.inl ⟨(y5 fb fo e).1, (y5 fb fo e).2.1, (y5 fb fo e).2.2.1, fun e2 => (y5 fb fo e).2.2.2 (by rw [e2])⟩⟩
        · have hnn := owns_none HO.out
          exact ⟨HoldsK.own HO.out, hnn.1, hnn.2, fun fb fo e => Or.inr ⟨Nat.le_trans B23.out.size (own_block HO.out e).1, (own_block HO.out e).2⟩⟩)
      have hp : ∀ en, putM x wa ks.length wc ks en = ⟨x.least, en, x.seq + 1, true, l, wa, m + 1, wc, ks⟩ := fun en => by
        unfold putM
        rw [KL.out, if_pos (by omega), show m + 1 - 1 = m from rfl, HLL.out, decide_eq_true (show 0 < m + 1 by omega), Bool.or_true]
      have hz1 := HZ4.out
      subst hz1
      refine ⟨rfl, wa, wc, (fun k => S k ∨ (w2.heap.size ≤ k ∧ k < w4.heap.size)), ?_, fun k hk => Or.imp id (fun hh => Nat.le_trans B2.out.size hh.1) hk, (Turn.of_below B2.out).trans (PT _).2⟩
      rw [Int.toNat_natCast, HX.out, hp]
      exact (PT _).1
end Go.Proofs.Ytgghbgmeebihbaa
