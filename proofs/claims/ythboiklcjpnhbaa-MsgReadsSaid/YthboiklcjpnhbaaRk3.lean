/- the document's order of items: Less, Put, Sort -/
import Derived.Test.YthboiklcjpnhbaaRk0
import Derived.Test.YthboiklcjpnhbaaKf0
import Derived.Test.YthboiklcjpnhbaaCp2
import Derived.Deep.RegionHeld3
import Derived.Deep.DeepCutAuto
namespace Go.Proofs.Ythboiklcjpnhbaa
open Go.RowKit
set_option linter.unusedVariables false
set_option maxRecDepth 20000
theorem rcompare_lit (x y : Tx) (v : Int) (w : World) (hx : x.size ≤ 1048576) (hy : y.size ≤ 1048576) (hv : cmpS x y = v) :
    Calls Try.prog 93 #[.string x, .string y] w fun e w' => e = .returned (.int .i64 v) ∧ Below w.heap.size w w' := by subst hv; exact rcompare_any x y w hx hy
theorem rlessI_any (a b : KV) (w : World) (ha : a.2.size ≤ 1048576) (hb : b.2.size ≤ 1048576) :
    Calls Try.prog 72 #[keyV a, keyV b] w fun e w' => e = .returned (.bool (lessK a b)) ∧ Below w.heap.size w w' := by
  obtain ⟨c, hc⟩ : ∃ c, lessK a b = c := ⟨_, rfl⟩
  rw [hc]
  have hc2 : c = true ↔ (a.1 < b.1 ∨ (a.1 = b.1 ∧ cmpS a.2 b.2 < 0)) := by rw [← ordK_lt, ← hc]; exact decide_eq_true_iff
  clear hc
  obtain ⟨a1, a2⟩ := a
  obtain ⟨b1, b2⟩ := b
  simp only at hc2 ha hb
  unfold keyV
  simp only
  have BB := Lib.hid ((Below.refl w.heap.size w).alloc (Nat.le_refl _) (.cells #[.int .i64 a1, .string a2] 27) |>.alloc (by simp) (.cells #[.int .i64 b1, .string b2] 27))
  rcases Int.lt_trichotomy a1 b1 with h | h | h
  · obtain rfl : c = true := hc2.2 (Or.inl h)
    have g1 : decide (a1 < b1) = true := decide_eq_true h
    clear hc2
    go_enter Try.func72, Try.ntmps72
    go_wp2_with fail
    go_ret
    exact ⟨rfl, BB.out⟩
  · subst h
    have g1 : decide (a1 < a1) = false := by simp
    have g2 : (a1 == a1) = true := by simp
    obtain ⟨v, hv⟩ : ∃ v, cmpS a2 b2 = v := ⟨_, rfl⟩
    rw [hv] at hc2
    have HV := Lib.hid hv
    have hcv : c = decide (v < 0) := by
      cases c
      · symm; rw [decide_eq_false_iff_not]; intro h; exact absurd (hc2.2 (Or.inr ⟨rfl, h⟩)) (by simp)
      · symm; rw [decide_eq_true_iff]; rcases hc2.1 rfl with h | h; omega; exact h.2
    subst hcv
    clear hc2 hv
    go_enter Try.func72, Try.ntmps72
    go_wp2_with fail
    refine (rcompare_lit a2 b2 v _ ha hb HV.out).mono ?_
    rintro e w' ⟨rfl, hb2⟩
    go_wp2_with fail
    go_ret
    exact ⟨rfl, BB.out.trans (hb2.mono BB.out.size)⟩
  · obtain rfl : c = false := by
      cases c
      · rfl
      · rcases hc2.1 rfl with h2 | h2 <;> omega
    have g1 : decide (a1 < b1) = false := by rw [decide_eq_false_iff_not]; omega
    have g2 : (a1 == b1) = false := by rw [beq_eq_false_iff_ne]; omega
    clear hc2
    go_enter Try.func72, Try.ntmps72
    go_wp2_with fail
    go_ret
    exact ⟨rfl, BB.out⟩
theorem rlessI_lit (a b : KV) (c : Bool) (w : World) (ha : a.2.size ≤ 1048576) (hb : b.2.size ≤ 1048576) (hc : lessK a b = c) :
    Calls Try.prog 72 #[keyV a, keyV b] w fun e w' => e = .returned (.bool c) ∧ Below w.heap.size w w' := by subst hc; exact rlessI_any a b w ha hb
theorem item_info : (Try.prog.info? 27).map (fun i => (i.zero, i.size, i.bytes)) = some (some (.agg #[.int .i64 0, .string ⟨#[]⟩]), 2, 24) := by kernel_rfl
/-- a new slice of these items -/
def RetI (w : World) (ys : List KV) (e : Ending) (w' : World) : Prop := ∃ a c, e = .returned (.slice a ys.length c) ∧ w'.ownsRow w.heap.size 27 2 (.slice a ys.length c) ys.length (keysV ys) ∧ Below w.heap.size w w'
theorem retI_own {w w' : World} {a : Option Addr} {c n : Nat} {ys zs : List KV} (h : ys = zs) (hn : ys.length = n) (hh : w'.ownsRow w.heap.size 27 2 (.slice a n c) n (keysV ys)) (hb : Below w.heap.size w w') (v : Value) (hv : v = .slice a n c) : RetI w zs (.returned v) w' := by
  subst h hn hv; exact ⟨a, c, rfl, hh, hb⟩
open Go.ChangeShapes Go.WideShapes Go.ChangeAt in
theorem two_new (w : World) (u v : Value) (e : TypeId) (fr : Nat × Nat) : ∀ ad, (some ⟨w.heap.size, 0, none⟩ : Option Addr) = some ad → ∀ j x, [u, v][j]? = some x → (w.alloc (.cells #[u, v] e fr)).cell? (ad.add j) = some x := by
  intro ad had j x hx
  obtain rfl := Option.some.inj had
  match j, hx with
  | 0, hx =>
    simp at hx; subst hx
    rw [add_plain, World.cell?_alloc_mark]; rfl
  | 1, hx =>
    simp at hx; subst hx
    rw [add_plain, World.cell?_alloc_mark]; rfl
theorem two_one (z : Int) (s : Tx) : ∀ u ∈ [Value.int .i64 z, .string s], u.oneCell' = true := by simp [Value.oneCell']
theorem keysV_snoc (ks : List KV) (k : KV) : keysV (ks ++ [k]) = keysV ks ++ [.int .i64 k.1, .string k.2] := by rw [keysV_app]; rfl
theorem drop_getD (l : List KV) (i : Nat) (h : i < l.length) : l.drop i = l.getD i k0 :: l.drop (i + 1) := by
  rw [List.drop_eq_getElem_cons h]; simp [List.getD_eq_getElem?_getD, h]
theorem _root_.Go.World.ownsRow.mono' {w : World} {base B : Nat} {e : TypeId} {size : Nat} {v : Value} {n : Nat} {xs : List Value} (h : w.ownsRow base e size v n xs) (hB : B ≤ base) : w.ownsRow B e size v n xs := by
  obtain ⟨h1, h2⟩ := h
  refine ⟨h1, ?_⟩
  rcases h2 with ⟨h2, h3⟩ | ⟨g, cap, cur, h2, h3, h4⟩
  · exact Or.inl ⟨h2, h3⟩
  · exact Or.inr ⟨g, cap, cur, h2, Nat.le_trans hB h3, h4⟩
/-- what the document's Put has so far -/
def PutInv (x : KV) (l : List KV) (i : Nat) (f : Bool) (P : List KV) : Prop :=
  (f = true ∧ P ++ l.drop i = putK x l) ∨ (f = false ∧ P = l.take i ∧ putK x l = l.take i ++ putK x (l.drop i))
theorem putInv_start (x : KV) (l : List KV) : PutInv x l 0 false [] := Or.inr ⟨rfl, rfl, by simp⟩
theorem putInv_true {x : KV} {l : List KV} {i : Nat} {P : List KV} (h : PutInv x l i true P) (hi : i < l.length) : PutInv x l (i + 1) true (P ++ [l.getD i k0]) := by
  rcases h with ⟨_, h⟩ | ⟨h, _⟩
  · rw [drop_getD l i hi] at h
    exact Or.inl ⟨rfl, by rw [← h]; simp⟩
  · cases h
theorem putInv_lt {x : KV} {l : List KV} {i : Nat} {P : List KV} (h : PutInv x l i false P) (hi : i < l.length) (hlt : ordK x (l.getD i k0) < 0) : PutInv x l (i + 1) true (P ++ [x] ++ [l.getD i k0]) := by
  rcases h with ⟨h, _⟩ | ⟨_, h, h2⟩
  · cases h
  · refine Or.inl ⟨rfl, ?_⟩
    rw [h2, drop_getD l i hi, h]
    simp only [putK, if_pos hlt]
    simp
theorem putInv_ge {x : KV} {l : List KV} {i : Nat} {P : List KV} (h : PutInv x l i false P) (hi : i < l.length) (hlt : ¬ ordK x (l.getD i k0) < 0) : PutInv x l (i + 1) false (P ++ [l.getD i k0]) := by
  rcases h with ⟨h, _⟩ | ⟨_, h, h2⟩
  · cases h
  · refine Or.inr ⟨rfl, by rw [h, take_succ_getD l k0 i hi], ?_⟩
    rw [h2, drop_getD l i hi, take_succ_getD l k0 i hi]
    simp only [putK, if_neg hlt]
    simp
theorem putInv_end {x : KV} {l : List KV} {f : Bool} {P : List KV} (h : PutInv x l l.length f P) : putK x l = if f = true then P else P ++ [x] := by
  rcases h with ⟨rfl, h⟩ | ⟨rfl, h, h2⟩
  · simpa using h.symm
  · rw [h2, h]; simp [putK]
def Box4r (w0 : World) (p b o : Nat) (v0 v1 v2 v3 : Value) (w : World) : Prop := Below w0.heap.size w0 w ∧ w.cell? ⟨p, 0, none⟩ = some v0 ∧ w.cell? ⟨p, 1, none⟩ = some v1 ∧ w.cell? ⟨b, o, none⟩ = some v2 ∧ w.cell? ⟨b, o + 1, none⟩ = some v3
theorem box4r_carry {w0 w w' : World} {p b o : Nat} {v0 v1 v2 v3 : Value} (h : Box4r w0 p b o v0 v1 v2 v3 w) (hb : Below w.heap.size w w') : Box4r w0 p b o v0 v1 v2 v3 w' :=
  ⟨h.1.trans (hb.mono h.1.size), by rw [hb.cell (p := ⟨p, 0, none⟩) (lt_of_cell h.2.1)]; exact h.2.1, by rw [hb.cell (p := ⟨p, 1, none⟩) (lt_of_cell h.2.1)]; exact h.2.2.1, by rw [hb.cell (p := ⟨b, o, none⟩) (lt_of_cell h.2.2.2.1)]; exact h.2.2.2.1, by rw [hb.cell (p := ⟨b, o + 1, none⟩) (lt_of_cell h.2.2.2.1)]; exact h.2.2.2.2⟩
end Go.Proofs.Ythboiklcjpnhbaa
