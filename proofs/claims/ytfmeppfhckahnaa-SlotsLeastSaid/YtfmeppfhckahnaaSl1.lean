/- slots: the plain state; in memory; the small methods -/
import Derived.Test.YtfmeppfhckahnaaMi
import Derived.Test.YtfmeppfhckahnaaMay1
import Derived.Outline
import Derived.BigRegion
namespace Go.Proofs.Ytfmeppfhckahnaa
open Go.RowKit
set_option linter.unusedVariables false
theorem in_any (n lo hi : Int) (w : World) :
    Calls Try.prog 24 #[.int .i64 n, .int .i64 lo, .int .i64 hi] w fun e w' => e = .returned (.bool (decide (lo ≤ n ∧ n ≤ hi))) ∧ w = w' := by
  go_enter Try.func24, Try.ntmps24
  go_wp2
  all_goals (go_ret; exact ⟨ret_bool (by simp; try omega), rfl⟩)
theorem in_lit (n lo hi : Int) (c : Bool) (w : World) (h : decide (lo ≤ n ∧ n ≤ hi) = c) :
    Calls Try.prog 24 #[.int .i64 n, .int .i64 lo, .int .i64 hi] w fun e w' => e = .returned (.bool c) ∧ w = w' := by
  subst h; exact in_any n lo hi w
def upd (f : Nat → Int) (i : Nat) (v : Int) : Nat → Int := fun j => if j = i then v else f j
theorem upd_at (f : Nat → Int) (i : Nat) (v : Int) : upd f i v i = v := by simp [upd]
theorem upd_ne (f : Nat → Int) (i j : Nat) (v : Int) (h : j ≠ i) : upd f i v j = f j := by simp [upd, h]
/-- so many slots; the last number; who has each (0: nobody) -/
structure Sl where
  n : Nat
  last : Int
  L : Nat → Int
structure SlGood (s : Sl) : Prop where
  n1 : 1 ≤ s.n
  n4 : s.n ≤ 4
  lo : 0 ≤ s.last
  bd : ∀ i, 0 ≤ s.L i ∧ s.L i ≤ s.last
  far : ∀ i, s.n ≤ i → s.L i = 0
  apart : ∀ i j, s.L i = s.L j → 0 < s.L i → i = j
/-- the first free slot, or none -/
def FirstFree (s : Sl) (j : Nat) : Prop := j ≤ s.n ∧ (∀ i, i < j → s.L i ≠ 0) ∧ (j < s.n → s.L j = 0)
/-- the slot of a number -/
def SlotOf (s : Sl) (z : Int) : Option Nat → Prop
  | some i => i < s.n ∧ s.L i = z ∧ 0 < z
  | none => z ≤ 0 ∨ ∀ i, i < s.n → s.L i ≠ z
theorem firstFree_ex (s : Sl) : ∃ j, FirstFree s j := by
  have h : ∀ k, k ≤ s.n → (∃ j, j < k ∧ s.L j = 0 ∧ ∀ i, i < j → s.L i ≠ 0) ∨ ∀ i, i < k → s.L i ≠ 0 := by
    intro k
    induction k with
    | zero => exact fun _ => Or.inr (by omega)
    | succ k ih =>
      intro hk
      rcases ih (by omega) with ⟨j, h1, h2⟩ | h
      · exact Or.inl ⟨j, by omega, h2⟩
      · by_cases e : s.L k = 0
        · exact Or.inl ⟨k, by omega, e, h⟩
        · refine Or.inr fun i hi => ?_
          by_cases e2 : i = k
          · subst e2; exact e
          · exact h i (by omega)
  rcases h s.n (Nat.le_refl _) with ⟨j, h1, h2, h3⟩ | h
  · exact ⟨j, by omega, h3, fun _ => h2⟩
  · exact ⟨s.n, Nat.le_refl _, h, by omega⟩
theorem slotOf_ex (s : Sl) (z : Int) : ∃ x, SlotOf s z x := by
  by_cases h : ∃ i, i < s.n ∧ s.L i = z ∧ 0 < z
  · obtain ⟨i, h⟩ := h
    exact ⟨some i, h⟩
  · refine ⟨none, ?_⟩
    by_cases h0 : z ≤ 0
    · exact Or.inl h0
    · exact Or.inr fun i hi e => h ⟨i, hi, e, by omega⟩
def oint : Option Nat → Option Int
  | some i => some (i : Int)
  | none => none
theorem oint_some (i : Nat) : oint (some i) = some (i : Int) := rfl
/-- how many are taken -/
def cnt (L : Nat → Int) : Nat → Nat
  | 0 => 0
  | k + 1 => cnt L k + if 0 < L k then 1 else 0
def taken (s : Sl) : Nat := cnt s.L s.n
theorem cnt_le (L : Nat → Int) (k : Nat) : cnt L k ≤ k := by
  induction k with
  | zero => exact Nat.le_refl _
  | succ k ih => unfold cnt; split <;> omega
theorem cnt_out (L : Nat → Int) (i : Nat) (v : Int) (k : Nat) (h : k ≤ i) : cnt (upd L i v) k = cnt L k := by
  induction k with
  | zero => rfl
  | succ k ih => simp only [cnt]; rw [ih (by omega), upd_ne _ _ _ _ (by omega)]
theorem cnt_upd (L : Nat → Int) (i : Nat) (v : Int) (k : Nat) (h : i < k) : cnt (upd L i v) k + (if 0 < L i then 1 else 0) = cnt L k + (if 0 < v then 1 else 0) := by
  induction k with
  | zero => omega
  | succ k ih =>
    by_cases e : i = k
    · subst e; simp only [cnt]; rw [cnt_out _ _ _ _ (Nat.le_refl _), upd_at]; omega
    · have := ih (by omega); simp only [cnt]; rw [upd_ne _ _ _ _ (by omega)]; omega
theorem cnt_zero (k : Nat) : cnt (fun _ => 0) k = 0 := by
  induction k with
  | zero => rfl
  | succ k ih => simp only [cnt, ih]; simp
/-- the object lies in block b, its maps in bo and ba -/
structure SlAt (w : World) (b bo ba : Nat) (s : Sl) : Prop where
  c0 : w.cell? ⟨b, 0, none⟩ = some (.int .i64 s.n)
  c1 : w.cell? ⟨b, 1, none⟩ = some (.int .i64 s.last)
  c2 : w.cell? ⟨b, 2, none⟩ = some (.map (some bo))
  c3 : w.cell? ⟨b, 3, none⟩ = some (.map (some ba))
  fr : ∀ i, w.frozen? ⟨b, i, none⟩ = false
  mo : ∃ k f, MapI w bo k f ∧ k ≤ taken s ∧ ∀ z x, SlotOf s z x → f z = oint x
  ma : ∃ f, MapI w ba (taken s) f ∧ ∀ z, f z = if 0 ≤ z ∧ 0 < s.L z.toNat then some (s.L z.toNat) else none
  ne : bo ≠ ba ∧ b ≠ bo ∧ b ≠ ba
def slF (b bo ba : Nat) (k : Nat) : Prop := k = b ∨ k = bo ∨ k = ba
theorem SlAt.lt {w : World} {b bo ba : Nat} {s : Sl} (h : SlAt w b bo ba s) : b < w.heap.size ∧ bo < w.heap.size ∧ ba < w.heap.size := by
  obtain ⟨k, f, h1, _⟩ := h.mo
  obtain ⟨g, h2, _⟩ := h.ma
  exact ⟨lt_of_cell h.c0, h1.lt, h2.lt⟩
theorem SlAt.block {w w' : World} {b bo ba : Nat} {s : Sl} (h : SlAt w b bo ba s) (e : ∀ k, slF b bo ba k → w'.heap[k]? = w.heap[k]?) : SlAt w' b bo ba s := by
  have hc : ∀ i, w'.cell? ⟨b, i, none⟩ = w.cell? ⟨b, i, none⟩ := fun i => World.cell?_of_block (w := w) (e b (Or.inl rfl))
  obtain ⟨k, f, h1, h2, h3⟩ := h.mo
  obtain ⟨g, h4, h5⟩ := h.ma
  exact ⟨by rw [hc]; exact h.c0, by rw [hc]; exact h.c1, by rw [hc]; exact h.c2, by rw [hc]; exact h.c3, fun i => by rw [World.frozen?_of_block (w := w) (e b (Or.inl rfl))]; exact h.fr i,
    ⟨k, f, h1.block (e bo (Or.inr (Or.inl rfl))), h2, h3⟩, ⟨g, h4.block (e ba (Or.inr (Or.inr rfl))), h5⟩, h.ne⟩
theorem SlAt.turn {w w' : World} {b bo ba : Nat} {s : Sl} {F : Nat → Prop} (h : SlAt w b bo ba s) (t : Turn F w w') (hF : ∀ k, slF b bo ba k → ¬ F k) : SlAt w' b bo ba s := by
  have hl := h.lt
  refine h.block fun k hk => t.block k ?_ (hF k hk)
  rcases hk with rfl | rfl | rfl
  · exact hl.1
  · exact hl.2.1
  · exact hl.2.2
theorem SlAt.below {w w' : World} {b bo ba : Nat} {s : Sl} (h : SlAt w b bo ba s) (t : Below w.heap.size w w') : SlAt w' b bo ba s :=
  h.turn (Turn.of_below (F := fun _ => False) t) (fun _ _ x => x)
def newSl (n : Nat) : Sl := ⟨n, 0, fun _ => 0⟩
theorem newSl_good {n : Nat} (h : 1 ≤ n) (h4 : n ≤ 4) : SlGood (newSl n) := ⟨h, h4, by simp [newSl], fun i => by simp [newSl], fun i _ => rfl, fun i j h h2 => by simp [newSl] at h2⟩
theorem newSl_taken (n : Nat) : taken (newSl n) = 0 := cnt_zero n
theorem slNew_bad (n : Int) (w : World) (h : ¬ (1 ≤ n ∧ n ≤ 4)) :
    Calls Try.prog 9 #[.int .i64 n] w fun e w' => e = .returned (.tuple #[.pointer none, .int .i64 2]) ∧ w = w' := by
  have H := Lib.hid (decide_eq_false h)
  go_enter Try.func9, Try.ntmps9
  go_wp2_with fail
  refine (in_lit _ _ _ _ _ H.out).mono ?_
  rintro e w' ⟨rfl, rfl⟩
  go_wp2_with fail
  go_ret2
  exact ⟨rfl, rfl⟩
theorem slNew_good (n : Nat) (w : World) (h : 1 ≤ n ∧ n ≤ 4) :
    Calls Try.prog 9 #[.int .i64 n] w fun e w' => ∃ b bo ba, e = .returned (.tuple #[.pointer (some ⟨b, 0, none⟩), .int .i64 0]) ∧
      SlAt w' b bo ba (newSl n) ∧ (∀ k, slF b bo ba k → w.heap.size ≤ k) ∧ Below w.heap.size w w' := by
  have H := Lib.hid (decide_eq_true (show 1 ≤ (n : Int) ∧ (n : Int) ≤ 4 by omega))
  have hmm := @run_makeMap Try.prog
  go_enter Try.func9, Try.ntmps9
  go_wp2_with fail
  refine (in_lit _ _ _ _ _ H.out).mono ?_
  rintro e w' ⟨rfl, rfl⟩
  go_wp2_with fail
  go_ret2
  have m1 : MapI (w.alloc (.map #[] 0)) w.heap.size 0 (fun _ => none) := mapI_made w
  have m2 : MapI ((w.alloc (.map #[] 0)).alloc (.map #[] 0)) (w.heap.size + 1) 0 (fun _ => none) := by
    have := mapI_made (w.alloc (.map #[] 0)); simpa using this
  have m1' := (m1.below (below_one _ (.map #[] 0))).below (below_one _ (.cells #[.int .i64 n, .int .i64 0, .map (some w.heap.size), .map (some (w.heap.size + 1))] 55))
  have m2' := m2.below (below_one _ (.cells #[.int .i64 n, .int .i64 0, .map (some w.heap.size), .map (some (w.heap.size + 1))] 55))
  refine ⟨w.heap.size + 1 + 1, w.heap.size, w.heap.size + 1, rfl, ⟨by rw [cell_alloc (by simp)]; rfl, by rw [cell_alloc (by simp)]; rfl, by rw [cell_alloc (by simp)]; rfl, by rw [cell_alloc (by simp)]; rfl, fun i => frozen_alloc (by simp), ⟨0, _, m1', by simp, fun z x hx => ?_⟩, ⟨_, by rw [newSl_taken]; exact m2', fun z => by simp [newSl]⟩, by omega⟩, fun k hk => ?_, ((((Below.refl _ _).alloc (Nat.le_refl _) _).alloc (by simp) _).alloc (by simp; omega) _)⟩
  · cases x with
    | none => rfl
    | some i => have h1 := hx.2.1; have h2 := hx.2.2; simp [newSl] at h1; omega
  · rcases hk with rfl | rfl | rfl <;> omega
theorem of_none (z : Int) (w : World) :
    Calls Try.prog 16 #[.pointer none, .int .i64 z] w fun e w' => e = .returned (.tuple #[.int .i64 0, .bool false]) ∧ w = w' := by
  go_enter Try.func16, Try.ntmps16
  go_wp2_with fail
  go_ret2
  exact ⟨rfl, rfl⟩
theorem at_none (z : Int) (w : World) :
    Calls Try.prog 18 #[.pointer none, .int .i64 z] w fun e w' => e = .returned (.tuple #[.int .i64 0, .bool false]) ∧ w = w' := by
  go_enter Try.func18, Try.ntmps18
  go_wp2_with fail
  go_ret2
  exact ⟨rfl, rfl⟩
theorem count_none (w : World) :
    Calls Try.prog 19 #[.pointer none] w fun e w' => e = .returned (.int .i64 0) ∧ w = w' := by
  go_enter Try.func19, Try.ntmps19
  go_wp2_with fail
  go_ret
  exact ⟨rfl, rfl⟩
theorem last_none (w : World) :
    Calls Try.prog 21 #[.pointer none] w fun e w' => e = .returned (.int .i64 0) ∧ w = w' := by
  go_enter Try.func21, Try.ntmps21
  go_wp2_with fail
  go_ret
  exact ⟨rfl, rfl⟩
theorem free_none (z : Int) (w : World) :
    Calls Try.prog 12 #[.pointer none, .int .i64 z] w fun e w' => e = .returned (.bool false) ∧ w = w' := by
  go_enter Try.func12, Try.ntmps12
  go_wp2_with fail
  refine (of_none z _).mono ?_
  rintro e w' ⟨rfl, rfl⟩
  go_wp2_with fail
  go_ret
  exact ⟨rfl, rfl⟩
theorem submit_none (s : ByteArray) (k n : Int) (w : World) :
    Calls Try.prog 14 #[.pointer none, .agg #[.string s, .int .i64 k, .int .i64 n]] w fun e w' => e = .returned (.tuple #[.int .i64 0, .int .i64 0, .int .i64 0]) ∧ Below w.heap.size w w' := by
  go_enter Try.func14, Try.ntmps14
  go_wp2_with fail
  go_ret3
  exact ⟨rfl, below_one _ _⟩
theorem last_any {s : Sl} (b bo ba : Nat) (w : World) (h : SlAt w b bo ba s) :
    Calls Try.prog 21 #[.pointer (some ⟨b, 0, none⟩)] w fun e w' => e = .returned (.int .i64 s.last) ∧ w = w' := by
  have c1 := h.c1
  have H := Lib.hid h
  clear h
  go_enter Try.func21, Try.ntmps21
  go_wp2_with fail
  go_ret
  exact ⟨rfl, rfl⟩
theorem count_any {s : Sl} (b bo ba : Nat) (w : World) (h : SlAt w b bo ba s) :
    Calls Try.prog 19 #[.pointer (some ⟨b, 0, none⟩)] w fun e w' => e = .returned (.int .i64 (taken s)) ∧ w = w' := by
  have c3 := h.c3
  obtain ⟨f, hm, _⟩ := h.ma
  have H := Lib.hid h
  clear h
  go_enter Try.func19, Try.ntmps19
  go_wp2_with (at_len; refine wpList_len_mi rfl _ rfl rfl hm ?_)
  go_ret
  exact ⟨rfl, rfl⟩
theorem of_any {s : Sl} (b bo ba : Nat) (z : Int) (x : Option Nat) (w : World) (h : SlAt w b bo ba s) (hz : (Lit.int .i64 z).wf = true) (hx : SlotOf s z x) :
    Calls Try.prog 16 #[.pointer (some ⟨b, 0, none⟩), .int .i64 z] w fun e w' => e = .returned (.tuple #[.int .i64 ((oint x).getD 0), .bool x.isSome]) ∧ w = w' := by
  have c2 := h.c2
  obtain ⟨k, f, hm, _, hf⟩ := h.mo
  have hfx := hf z x hx
  have hi : (oint x).isSome = x.isSome := by cases x <;> rfl
  have H := Lib.hid h; have HI := Lib.hid hi; have HX := Lib.hid hfx; have HH := Lib.hid hf
  clear h hi hfx hf
  go_enter Try.func16, Try.ntmps16
  go_wp2_with (at_lookup; refine wpList_look_mi rfl _ _ rfl rfl hm z rfl hz ?_)
  go_ret2
  exact ⟨by rw [HX.out, HI.out]; rfl, rfl⟩
/-- the number of a slot, or none -/
def atS (s : Sl) (z : Int) : Option Int := if 0 ≤ z ∧ 0 < s.L z.toNat then some (s.L z.toNat) else none
theorem at_any {s : Sl} (b bo ba : Nat) (z : Int) (w : World) (h : SlAt w b bo ba s) (hz : (Lit.int .i64 z).wf = true) :
    Calls Try.prog 18 #[.pointer (some ⟨b, 0, none⟩), .int .i64 z] w fun e w' => e = .returned (.tuple #[.int .i64 ((atS s z).getD 0), .bool (atS s z).isSome]) ∧ w = w' := by
  have c3 := h.c3
  obtain ⟨f, hm, hf⟩ := h.ma
  have hfx : f z = atS s z := hf z
  have H := Lib.hid h; have HX := Lib.hid hfx; have HH := Lib.hid hf
  clear h hfx hf
  go_enter Try.func18, Try.ntmps18
  go_wp2_with (at_lookup; refine wpList_look_mi rfl _ _ rfl rfl hm z rfl hz ?_)
  go_ret2
  exact ⟨by rw [HX.out]; rfl, rfl⟩
end Go.Proofs.Ytfmeppfhckahnaa
