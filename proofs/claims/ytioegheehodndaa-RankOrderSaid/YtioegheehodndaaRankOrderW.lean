/- RankOrder: the order of items is one -/
import Derived.Test.YtioegheehodndaaPkB
import Derived.Deep.RegionHeld3
namespace Go.Proofs.Ytioegheehodndaa
open Go.RowKit
set_option linter.unusedVariables false
set_option maxRecDepth 20000
def Six (w1 : World) (p q r : Nat) (v0 v1 v2 v3 v4 v5 : Value) (w : World) : Prop := Below w1.heap.size w1 w ∧ w.cell? ⟨p, 0, none⟩ = some v0 ∧ w.cell? ⟨p, 1, none⟩ = some v1 ∧ w.cell? ⟨q, 0, none⟩ = some v2 ∧ w.cell? ⟨q, 1, none⟩ = some v3 ∧ w.cell? ⟨r, 0, none⟩ = some v4 ∧ w.cell? ⟨r, 1, none⟩ = some v5
theorem six_carry {w1 : World} {p q r : Nat} {v0 v1 v2 v3 v4 v5 : Value} {w w' : World} (h : Six w1 p q r v0 v1 v2 v3 v4 v5 w) (hb : Below w.heap.size w w') : Six w1 p q r v0 v1 v2 v3 v4 v5 w' := by
  obtain ⟨h0, h1, h2, h3, h4, h5, h6⟩ := h
  exact ⟨h0.trans (hb.mono h0.size), by rw [hb.cell (p := ⟨p, 0, none⟩) (lt_of_cell h1)]; exact h1, by rw [hb.cell (p := ⟨p, 1, none⟩) (lt_of_cell h1)]; exact h2, by rw [hb.cell (p := ⟨q, 0, none⟩) (lt_of_cell h3)]; exact h3, by rw [hb.cell (p := ⟨q, 1, none⟩) (lt_of_cell h3)]; exact h4, by rw [hb.cell (p := ⟨r, 0, none⟩) (lt_of_cell h5)]; exact h5, by rw [hb.cell (p := ⟨r, 1, none⟩) (lt_of_cell h5)]; exact h6⟩
theorem iless_cells (a b : KV) (c : Bool) (w : World) (h : lessK a b = c) :
    Calls Try.prog 28 #[.agg #[.int .i64 a.1, .string a.2], .agg #[.int .i64 b.1, .string b.2]] w fun e w' => e = .returned (.bool c) ∧ Below w.heap.size w w' := iless_lit a b c w h
theorem lessK_irr (a : KV) : lessK a a = false := decide_eq_false (ordK_irrefl a)
set_option maxRecDepth 100000 in
set_option maxHeartbeats 3200000 in
theorem rankOrder_lt1i (a b c : KV) (w : World) (ha : a.2.size ≤ 100) (hb : b.2.size ≤ 100) (hc : c.2.size ≤ 100) (hab : lessK a b = true) (hba : lessK b a = false) (hne : a.1 ≠ b.1) (hbc : lessK b c = true) (hac : lessK a c = true) :
    Calls Try.prog 5 #[keyV a, keyV b, keyV c] w fun e w' => e = .returned (.bool true) ∧ Below w.heap.size w w' := by
  have g1 : (a.1 == b.1) = false := by simpa using hne
  have SX : Hid (Six (((w.alloc (.cells #[.int .i64 a.1, .string a.2] 37)).alloc (.cells #[.int .i64 b.1, .string b.2] 37)).alloc (.cells #[.int .i64 c.1, .string c.2] 37)) w.heap.size (w.heap.size + 1) (w.heap.size + 1 + 1) (.int .i64 a.1) (.string a.2) (.int .i64 b.1) (.string b.2) (.int .i64 c.1) (.string c.2) (((w.alloc (.cells #[.int .i64 a.1, .string a.2] 37)).alloc (.cells #[.int .i64 b.1, .string b.2] 37)).alloc (.cells #[.int .i64 c.1, .string c.2] 37))) := Lib.hid ⟨Below.refl _ _, by rw [cell_alloc_old (by simp; omega), cell_alloc_old (by simp), cell_alloc rfl]; rfl, by rw [cell_alloc_old (by simp; omega), cell_alloc_old (by simp), cell_alloc rfl]; rfl, by rw [cell_alloc_old (by simp), cell_alloc (by simp)]; rfl, by rw [cell_alloc_old (by simp), cell_alloc (by simp)]; rfl, by rw [cell_alloc (by simp)]; rfl, by rw [cell_alloc (by simp)]; rfl⟩
  have BB := Lib.hid ((((Below.refl w.heap.size w).alloc (Nat.le_refl _) (.cells #[.int .i64 a.1, .string a.2] 37)).alloc (by simp) (.cells #[.int .i64 b.1, .string b.2] 37)).alloc (by simp; omega) (.cells #[.int .i64 c.1, .string c.2] 37))
  have LAA := Lib.hid (fun w => iless_cells a a false w (lessK_irr a))
  have LAB := Lib.hid (fun w => iless_cells a b _ w hab)
  have LBA := Lib.hid (fun w => iless_cells b a _ w hba)
  have LBC := Lib.hid (fun w => iless_cells b c _ w hbc)
  have LAC := Lib.hid (fun w => iless_cells a c _ w hac)
  obtain ⟨a1, a2⟩ := a
  obtain ⟨b1, b2⟩ := b
  obtain ⟨c1, c2⟩ := c
  unfold keyV
  simp only at *
  clear hne hab hba hbc hac
  go_enter Try.func5, Try.ntmps5
  go_upto_region 3 with fail
  generalize ((w.alloc (.cells #[.int .i64 a1, .string a2] 37)).alloc (.cells #[.int .i64 b1, .string b2] 37)).alloc (.cells #[.int .i64 c1, .string c2] 37) = w1 at *
  obtain ⟨q, hq⟩ : ∃ q, w.heap.size + 1 = q := ⟨_, rfl⟩
  obtain ⟨r, hr⟩ : ∃ r, q + 1 = r := ⟨_, rfl⟩
  rw [hq, hr] at SX
  simp only [hq]
  simp only [hr]
  clear hr hq
  go_region_held3 (fun w' => Below w1.heap.size w1 w' ∧ w'.cell? ⟨w.heap.size, 0, none⟩ = some (.int .i64 a1) ∧ w'.cell? ⟨w.heap.size, 1, none⟩ = some (.string a2) ∧ w'.cell? ⟨q, 0, none⟩ = some (.int .i64 b1) ∧ w'.cell? ⟨q, 1, none⟩ = some (.string b2) ∧ w'.cell? ⟨r, 0, none⟩ = some (.int .i64 c1) ∧ w'.cell? ⟨r, 1, none⟩ = some (.string c2))
    (first | assumption | exact six_carry SX.out (Below.refl _ _).drew | exact six_carry (by assumption) (by assumption))
    (first | ((with_reducible refine (LAB.out _).mono ?_); rintro e w' ⟨rfl, hb⟩) | ((with_reducible refine (LBA.out _).mono ?_); rintro e w' ⟨rfl, hb⟩))
  all_goals
    rename_i T5
    have T6 := Lib.hid T5
    obtain ⟨-, y0, y1, y2, y3, y4, y5⟩ := T5
    clear SX LAB LBA
    go_wp2_with fail
    refine (LBC.out _).mono ?_
    rintro e v0 ⟨rfl, hb9⟩
    have T7 := Lib.hid (six_carry T6.out hb9)
    clear hb9 y0 y1 y2 y3 y4 y5
    obtain ⟨-, y0, y1, y2, y3, y4, y5⟩ := T7.out
    go_wp2_with fail
    refine (LAC.out _).mono ?_
    rintro e v1 ⟨rfl, hb9⟩
    have T8 := Lib.hid (six_carry T7.out hb9)
    clear hb9 y0 y1 y2 y3 y4 y5
    obtain ⟨-, y0, y1, y2, y3, y4, y5⟩ := T8.out
    go_wp2_with fail
    refine (LAA.out _).mono ?_
    rintro e v2 ⟨rfl, hb9⟩
    have T9 := Lib.hid (six_carry T8.out hb9)
    clear hb9 y0 y1 y2 y3 y4 y5
    obtain ⟨-, y0, y1, y2, y3, y4, y5⟩ := T9.out
    go_wp2_with fail
    refine (awake_any _).mono ?_
    rintro e w9 ⟨rfl, hb9⟩
    go_wp2_with fail
    go_ret
    exact ⟨rfl, BB.out.trans ((T9.out.1.trans (hb9.mono T9.out.1.size)).mono BB.out.size)⟩
set_option maxRecDepth 100000 in
set_option maxHeartbeats 3200000 in
theorem rankOrder_lt0i (a b c : KV) (w : World) (ha : a.2.size ≤ 100) (hb : b.2.size ≤ 100) (hc : c.2.size ≤ 100) (hab : lessK a b = true) (hba : lessK b a = false) (hne : a.1 ≠ b.1) (hbc : lessK b c = false) :
    Calls Try.prog 5 #[keyV a, keyV b, keyV c] w fun e w' => e = .returned (.bool true) ∧ Below w.heap.size w w' := by
  have g1 : (a.1 == b.1) = false := by simpa using hne
  have SX : Hid (Six (((w.alloc (.cells #[.int .i64 a.1, .string a.2] 37)).alloc (.cells #[.int .i64 b.1, .string b.2] 37)).alloc (.cells #[.int .i64 c.1, .string c.2] 37)) w.heap.size (w.heap.size + 1) (w.heap.size + 1 + 1) (.int .i64 a.1) (.string a.2) (.int .i64 b.1) (.string b.2) (.int .i64 c.1) (.string c.2) (((w.alloc (.cells #[.int .i64 a.1, .string a.2] 37)).alloc (.cells #[.int .i64 b.1, .string b.2] 37)).alloc (.cells #[.int .i64 c.1, .string c.2] 37))) := Lib.hid ⟨Below.refl _ _, by rw [cell_alloc_old (by simp; omega), cell_alloc_old (by simp), cell_alloc rfl]; rfl, by rw [cell_alloc_old (by simp; omega), cell_alloc_old (by simp), cell_alloc rfl]; rfl, by rw [cell_alloc_old (by simp), cell_alloc (by simp)]; rfl, by rw [cell_alloc_old (by simp), cell_alloc (by simp)]; rfl, by rw [cell_alloc (by simp)]; rfl, by rw [cell_alloc (by simp)]; rfl⟩
  have BB := Lib.hid ((((Below.refl w.heap.size w).alloc (Nat.le_refl _) (.cells #[.int .i64 a.1, .string a.2] 37)).alloc (by simp) (.cells #[.int .i64 b.1, .string b.2] 37)).alloc (by simp; omega) (.cells #[.int .i64 c.1, .string c.2] 37))
  have LAA := Lib.hid (fun w => iless_cells a a false w (lessK_irr a))
  have LAB := Lib.hid (fun w => iless_cells a b _ w hab)
  have LBA := Lib.hid (fun w => iless_cells b a _ w hba)
  have LBC := Lib.hid (fun w => iless_cells b c _ w hbc)
  obtain ⟨a1, a2⟩ := a
  obtain ⟨b1, b2⟩ := b
  obtain ⟨c1, c2⟩ := c
  unfold keyV
  simp only at *
  clear hne hab hba hbc
  go_enter Try.func5, Try.ntmps5
  go_upto_region 3 with fail
  generalize ((w.alloc (.cells #[.int .i64 a1, .string a2] 37)).alloc (.cells #[.int .i64 b1, .string b2] 37)).alloc (.cells #[.int .i64 c1, .string c2] 37) = w1 at *
  obtain ⟨q, hq⟩ : ∃ q, w.heap.size + 1 = q := ⟨_, rfl⟩
  obtain ⟨r, hr⟩ : ∃ r, q + 1 = r := ⟨_, rfl⟩
  rw [hq, hr] at SX
  simp only [hq]
  simp only [hr]
  clear hr hq
  go_region_held3 (fun w' => Below w1.heap.size w1 w' ∧ w'.cell? ⟨w.heap.size, 0, none⟩ = some (.int .i64 a1) ∧ w'.cell? ⟨w.heap.size, 1, none⟩ = some (.string a2) ∧ w'.cell? ⟨q, 0, none⟩ = some (.int .i64 b1) ∧ w'.cell? ⟨q, 1, none⟩ = some (.string b2) ∧ w'.cell? ⟨r, 0, none⟩ = some (.int .i64 c1) ∧ w'.cell? ⟨r, 1, none⟩ = some (.string c2))
    (first | assumption | exact six_carry SX.out (Below.refl _ _).drew | exact six_carry (by assumption) (by assumption))
    (first | ((with_reducible refine (LAB.out _).mono ?_); rintro e w' ⟨rfl, hb⟩) | ((with_reducible refine (LBA.out _).mono ?_); rintro e w' ⟨rfl, hb⟩))
  all_goals
    rename_i T5
    have T6 := Lib.hid T5
    obtain ⟨-, y0, y1, y2, y3, y4, y5⟩ := T5
    clear SX LAB LBA
    go_wp2_with fail
    refine (LBC.out _).mono ?_
    rintro e v0 ⟨rfl, hb9⟩
    have T7 := Lib.hid (six_carry T6.out hb9)
    clear hb9 y0 y1 y2 y3 y4 y5
    obtain ⟨-, y0, y1, y2, y3, y4, y5⟩ := T7.out
    go_wp2_with fail
    refine (LAA.out _).mono ?_
    rintro e v1 ⟨rfl, hb9⟩
    have T8 := Lib.hid (six_carry T7.out hb9)
    clear hb9 y0 y1 y2 y3 y4 y5
    obtain ⟨-, y0, y1, y2, y3, y4, y5⟩ := T8.out
    go_wp2_with fail
    refine (awake_any _).mono ?_
    rintro e w9 ⟨rfl, hb9⟩
    go_wp2_with fail
    go_ret
    exact ⟨rfl, BB.out.trans ((T8.out.1.trans (hb9.mono T8.out.1.size)).mono BB.out.size)⟩
set_option maxRecDepth 100000 in
set_option maxHeartbeats 3200000 in
theorem rankOrder_gti (a b c : KV) (w : World) (ha : a.2.size ≤ 100) (hb : b.2.size ≤ 100) (hc : c.2.size ≤ 100) (hab : lessK a b = false) (hba : lessK b a = true) (hne : a.1 ≠ b.1) :
    Calls Try.prog 5 #[keyV a, keyV b, keyV c] w fun e w' => e = .returned (.bool true) ∧ Below w.heap.size w w' := by
  have g1 : (a.1 == b.1) = false := by simpa using hne
  have SX : Hid (Six (((w.alloc (.cells #[.int .i64 a.1, .string a.2] 37)).alloc (.cells #[.int .i64 b.1, .string b.2] 37)).alloc (.cells #[.int .i64 c.1, .string c.2] 37)) w.heap.size (w.heap.size + 1) (w.heap.size + 1 + 1) (.int .i64 a.1) (.string a.2) (.int .i64 b.1) (.string b.2) (.int .i64 c.1) (.string c.2) (((w.alloc (.cells #[.int .i64 a.1, .string a.2] 37)).alloc (.cells #[.int .i64 b.1, .string b.2] 37)).alloc (.cells #[.int .i64 c.1, .string c.2] 37))) := Lib.hid ⟨Below.refl _ _, by rw [cell_alloc_old (by simp; omega), cell_alloc_old (by simp), cell_alloc rfl]; rfl, by rw [cell_alloc_old (by simp; omega), cell_alloc_old (by simp), cell_alloc rfl]; rfl, by rw [cell_alloc_old (by simp), cell_alloc (by simp)]; rfl, by rw [cell_alloc_old (by simp), cell_alloc (by simp)]; rfl, by rw [cell_alloc (by simp)]; rfl, by rw [cell_alloc (by simp)]; rfl⟩
  have BB := Lib.hid ((((Below.refl w.heap.size w).alloc (Nat.le_refl _) (.cells #[.int .i64 a.1, .string a.2] 37)).alloc (by simp) (.cells #[.int .i64 b.1, .string b.2] 37)).alloc (by simp; omega) (.cells #[.int .i64 c.1, .string c.2] 37))
  have LAA := Lib.hid (fun w => iless_cells a a false w (lessK_irr a))
  have LAB := Lib.hid (fun w => iless_cells a b _ w hab)
  have LBA := Lib.hid (fun w => iless_cells b a _ w hba)
  obtain ⟨a1, a2⟩ := a
  obtain ⟨b1, b2⟩ := b
  obtain ⟨c1, c2⟩ := c
  unfold keyV
  simp only at *
  clear hne hab hba
  go_enter Try.func5, Try.ntmps5
  go_upto_region 3 with fail
  generalize ((w.alloc (.cells #[.int .i64 a1, .string a2] 37)).alloc (.cells #[.int .i64 b1, .string b2] 37)).alloc (.cells #[.int .i64 c1, .string c2] 37) = w1 at *
  obtain ⟨q, hq⟩ : ∃ q, w.heap.size + 1 = q := ⟨_, rfl⟩
  obtain ⟨r, hr⟩ : ∃ r, q + 1 = r := ⟨_, rfl⟩
  rw [hq, hr] at SX
  simp only [hq]
  simp only [hr]
  clear hr hq
  go_region_held3 (fun w' => Below w1.heap.size w1 w' ∧ w'.cell? ⟨w.heap.size, 0, none⟩ = some (.int .i64 a1) ∧ w'.cell? ⟨w.heap.size, 1, none⟩ = some (.string a2) ∧ w'.cell? ⟨q, 0, none⟩ = some (.int .i64 b1) ∧ w'.cell? ⟨q, 1, none⟩ = some (.string b2) ∧ w'.cell? ⟨r, 0, none⟩ = some (.int .i64 c1) ∧ w'.cell? ⟨r, 1, none⟩ = some (.string c2))
    (first | assumption | exact six_carry SX.out (Below.refl _ _).drew | exact six_carry (by assumption) (by assumption))
    (first | ((with_reducible refine (LAB.out _).mono ?_); rintro e w' ⟨rfl, hb⟩) | ((with_reducible refine (LBA.out _).mono ?_); rintro e w' ⟨rfl, hb⟩))
  all_goals
    rename_i T5
    have T6 := Lib.hid T5
    obtain ⟨-, y0, y1, y2, y3, y4, y5⟩ := T5
    clear SX LAB LBA
    go_wp2_with fail
    refine (LAA.out _).mono ?_
    rintro e v0 ⟨rfl, hb9⟩
    have T7 := Lib.hid (six_carry T6.out hb9)
    clear hb9 y0 y1 y2 y3 y4 y5
    obtain ⟨-, y0, y1, y2, y3, y4, y5⟩ := T7.out
    go_wp2_with fail
    refine (awake_any _).mono ?_
    rintro e w9 ⟨rfl, hb9⟩
    go_wp2_with fail
    go_ret
    exact ⟨rfl, BB.out.trans ((T7.out.1.trans (hb9.mono T7.out.1.size)).mono BB.out.size)⟩
set_option maxRecDepth 100000 in
set_option maxHeartbeats 3200000 in
theorem rankOrder_lt1s (a b c : KV) (w : World) (ha : a.2.size ≤ 100) (hb : b.2.size ≤ 100) (hc : c.2.size ≤ 100) (hab : lessK a b = true) (hba : lessK b a = false) (he : a.1 = b.1) (hne : a.2 ≠ b.2) (hbc : lessK b c = true) (hac : lessK a c = true) :
    Calls Try.prog 5 #[keyV a, keyV b, keyV c] w fun e w' => e = .returned (.bool true) ∧ Below w.heap.size w w' := by
  have g1 : (a.1 == b.1) = true := by simpa using he
  have g2 := str_other hne
  have SX : Hid (Six (((w.alloc (.cells #[.int .i64 a.1, .string a.2] 37)).alloc (.cells #[.int .i64 b.1, .string b.2] 37)).alloc (.cells #[.int .i64 c.1, .string c.2] 37)) w.heap.size (w.heap.size + 1) (w.heap.size + 1 + 1) (.int .i64 a.1) (.string a.2) (.int .i64 b.1) (.string b.2) (.int .i64 c.1) (.string c.2) (((w.alloc (.cells #[.int .i64 a.1, .string a.2] 37)).alloc (.cells #[.int .i64 b.1, .string b.2] 37)).alloc (.cells #[.int .i64 c.1, .string c.2] 37))) := Lib.hid ⟨Below.refl _ _, by rw [cell_alloc_old (by simp; omega), cell_alloc_old (by simp), cell_alloc rfl]; rfl, by rw [cell_alloc_old (by simp; omega), cell_alloc_old (by simp), cell_alloc rfl]; rfl, by rw [cell_alloc_old (by simp), cell_alloc (by simp)]; rfl, by rw [cell_alloc_old (by simp), cell_alloc (by simp)]; rfl, by rw [cell_alloc (by simp)]; rfl, by rw [cell_alloc (by simp)]; rfl⟩
  have BB := Lib.hid ((((Below.refl w.heap.size w).alloc (Nat.le_refl _) (.cells #[.int .i64 a.1, .string a.2] 37)).alloc (by simp) (.cells #[.int .i64 b.1, .string b.2] 37)).alloc (by simp; omega) (.cells #[.int .i64 c.1, .string c.2] 37))
  have LAA := Lib.hid (fun w => iless_cells a a false w (lessK_irr a))
  have LAB := Lib.hid (fun w => iless_cells a b _ w hab)
  have LBA := Lib.hid (fun w => iless_cells b a _ w hba)
  have LBC := Lib.hid (fun w => iless_cells b c _ w hbc)
  have LAC := Lib.hid (fun w => iless_cells a c _ w hac)
  obtain ⟨a1, a2⟩ := a
  obtain ⟨b1, b2⟩ := b
  obtain ⟨c1, c2⟩ := c
  unfold keyV
  simp only at *
  clear he hne hab hba hbc hac
  go_enter Try.func5, Try.ntmps5
  go_upto_region 3 with fail
  generalize ((w.alloc (.cells #[.int .i64 a1, .string a2] 37)).alloc (.cells #[.int .i64 b1, .string b2] 37)).alloc (.cells #[.int .i64 c1, .string c2] 37) = w1 at *
  obtain ⟨q, hq⟩ : ∃ q, w.heap.size + 1 = q := ⟨_, rfl⟩
  obtain ⟨r, hr⟩ : ∃ r, q + 1 = r := ⟨_, rfl⟩
  rw [hq, hr] at SX
  simp only [hq]
  simp only [hr]
  clear hr hq
  go_region_held3 (fun w' => Below w1.heap.size w1 w' ∧ w'.cell? ⟨w.heap.size, 0, none⟩ = some (.int .i64 a1) ∧ w'.cell? ⟨w.heap.size, 1, none⟩ = some (.string a2) ∧ w'.cell? ⟨q, 0, none⟩ = some (.int .i64 b1) ∧ w'.cell? ⟨q, 1, none⟩ = some (.string b2) ∧ w'.cell? ⟨r, 0, none⟩ = some (.int .i64 c1) ∧ w'.cell? ⟨r, 1, none⟩ = some (.string c2))
    (first | assumption | exact six_carry SX.out (Below.refl _ _).drew | exact six_carry (by assumption) (by assumption))
    (first | ((with_reducible refine (LAB.out _).mono ?_); rintro e w' ⟨rfl, hb⟩) | ((with_reducible refine (LBA.out _).mono ?_); rintro e w' ⟨rfl, hb⟩))
  all_goals
    rename_i T5
    have T6 := Lib.hid T5
    obtain ⟨-, y0, y1, y2, y3, y4, y5⟩ := T5
    clear SX LAB LBA
    go_wp2_with fail
    refine (LBC.out _).mono ?_
    rintro e v0 ⟨rfl, hb9⟩
    have T7 := Lib.hid (six_carry T6.out hb9)
    clear hb9 y0 y1 y2 y3 y4 y5
    obtain ⟨-, y0, y1, y2, y3, y4, y5⟩ := T7.out
    go_wp2_with fail
    refine (LAC.out _).mono ?_
    rintro e v1 ⟨rfl, hb9⟩
    have T8 := Lib.hid (six_carry T7.out hb9)
    clear hb9 y0 y1 y2 y3 y4 y5
    obtain ⟨-, y0, y1, y2, y3, y4, y5⟩ := T8.out
    go_wp2_with fail
    refine (LAA.out _).mono ?_
    rintro e v2 ⟨rfl, hb9⟩
    have T9 := Lib.hid (six_carry T8.out hb9)
    clear hb9 y0 y1 y2 y3 y4 y5
    obtain ⟨-, y0, y1, y2, y3, y4, y5⟩ := T9.out
    go_wp2_with fail
    refine (awake_any _).mono ?_
    rintro e w9 ⟨rfl, hb9⟩
    go_wp2_with fail
    go_ret
    exact ⟨rfl, BB.out.trans ((T9.out.1.trans (hb9.mono T9.out.1.size)).mono BB.out.size)⟩
set_option maxRecDepth 100000 in
set_option maxHeartbeats 3200000 in
theorem rankOrder_lt0s (a b c : KV) (w : World) (ha : a.2.size ≤ 100) (hb : b.2.size ≤ 100) (hc : c.2.size ≤ 100) (hab : lessK a b = true) (hba : lessK b a = false) (he : a.1 = b.1) (hne : a.2 ≠ b.2) (hbc : lessK b c = false) :
    Calls Try.prog 5 #[keyV a, keyV b, keyV c] w fun e w' => e = .returned (.bool true) ∧ Below w.heap.size w w' := by
  have g1 : (a.1 == b.1) = true := by simpa using he
  have g2 := str_other hne
  have SX : Hid (Six (((w.alloc (.cells #[.int .i64 a.1, .string a.2] 37)).alloc (.cells #[.int .i64 b.1, .string b.2] 37)).alloc (.cells #[.int .i64 c.1, .string c.2] 37)) w.heap.size (w.heap.size + 1) (w.heap.size + 1 + 1) (.int .i64 a.1) (.string a.2) (.int .i64 b.1) (.string b.2) (.int .i64 c.1) (.string c.2) (((w.alloc (.cells #[.int .i64 a.1, .string a.2] 37)).alloc (.cells #[.int .i64 b.1, .string b.2] 37)).alloc (.cells #[.int .i64 c.1, .string c.2] 37))) := Lib.hid ⟨Below.refl _ _, by rw [cell_alloc_old (by simp; omega), cell_alloc_old (by simp), cell_alloc rfl]; rfl, by rw [cell_alloc_old (by simp; omega), cell_alloc_old (by simp), cell_alloc rfl]; rfl, by rw [cell_alloc_old (by simp), cell_alloc (by simp)]; rfl, by rw [cell_alloc_old (by simp), cell_alloc (by simp)]; rfl, by rw [cell_alloc (by simp)]; rfl, by rw [cell_alloc (by simp)]; rfl⟩
  have BB := Lib.hid ((((Below.refl w.heap.size w).alloc (Nat.le_refl _) (.cells #[.int .i64 a.1, .string a.2] 37)).alloc (by simp) (.cells #[.int .i64 b.1, .string b.2] 37)).alloc (by simp; omega) (.cells #[.int .i64 c.1, .string c.2] 37))
  have LAA := Lib.hid (fun w => iless_cells a a false w (lessK_irr a))
  have LAB := Lib.hid (fun w => iless_cells a b _ w hab)
  have LBA := Lib.hid (fun w => iless_cells b a _ w hba)
  have LBC := Lib.hid (fun w => iless_cells b c _ w hbc)
  obtain ⟨a1, a2⟩ := a
  obtain ⟨b1, b2⟩ := b
  obtain ⟨c1, c2⟩ := c
  unfold keyV
  simp only at *
  clear he hne hab hba hbc
  go_enter Try.func5, Try.ntmps5
  go_upto_region 3 with fail
  generalize ((w.alloc (.cells #[.int .i64 a1, .string a2] 37)).alloc (.cells #[.int .i64 b1, .string b2] 37)).alloc (.cells #[.int .i64 c1, .string c2] 37) = w1 at *
  obtain ⟨q, hq⟩ : ∃ q, w.heap.size + 1 = q := ⟨_, rfl⟩
  obtain ⟨r, hr⟩ : ∃ r, q + 1 = r := ⟨_, rfl⟩
  rw [hq, hr] at SX
  simp only [hq]
  simp only [hr]
  clear hr hq
  go_region_held3 (fun w' => Below w1.heap.size w1 w' ∧ w'.cell? ⟨w.heap.size, 0, none⟩ = some (.int .i64 a1) ∧ w'.cell? ⟨w.heap.size, 1, none⟩ = some (.string a2) ∧ w'.cell? ⟨q, 0, none⟩ = some (.int .i64 b1) ∧ w'.cell? ⟨q, 1, none⟩ = some (.string b2) ∧ w'.cell? ⟨r, 0, none⟩ = some (.int .i64 c1) ∧ w'.cell? ⟨r, 1, none⟩ = some (.string c2))
    (first | assumption | exact six_carry SX.out (Below.refl _ _).drew | exact six_carry (by assumption) (by assumption))
    (first | ((with_reducible refine (LAB.out _).mono ?_); rintro e w' ⟨rfl, hb⟩) | ((with_reducible refine (LBA.out _).mono ?_); rintro e w' ⟨rfl, hb⟩))
  all_goals
    rename_i T5
    have T6 := Lib.hid T5
    obtain ⟨-, y0, y1, y2, y3, y4, y5⟩ := T5
    clear SX LAB LBA
    go_wp2_with fail
    refine (LBC.out _).mono ?_
    rintro e v0 ⟨rfl, hb9⟩
    have T7 := Lib.hid (six_carry T6.out hb9)
    clear hb9 y0 y1 y2 y3 y4 y5
    obtain ⟨-, y0, y1, y2, y3, y4, y5⟩ := T7.out
    go_wp2_with fail
    refine (LAA.out _).mono ?_
    rintro e v1 ⟨rfl, hb9⟩
    have T8 := Lib.hid (six_carry T7.out hb9)
    clear hb9 y0 y1 y2 y3 y4 y5
    obtain ⟨-, y0, y1, y2, y3, y4, y5⟩ := T8.out
    go_wp2_with fail
    refine (awake_any _).mono ?_
    rintro e w9 ⟨rfl, hb9⟩
    go_wp2_with fail
    go_ret
    exact ⟨rfl, BB.out.trans ((T8.out.1.trans (hb9.mono T8.out.1.size)).mono BB.out.size)⟩
set_option maxRecDepth 100000 in
set_option maxHeartbeats 3200000 in
theorem rankOrder_gts (a b c : KV) (w : World) (ha : a.2.size ≤ 100) (hb : b.2.size ≤ 100) (hc : c.2.size ≤ 100) (hab : lessK a b = false) (hba : lessK b a = true) (he : a.1 = b.1) (hne : a.2 ≠ b.2) :
    Calls Try.prog 5 #[keyV a, keyV b, keyV c] w fun e w' => e = .returned (.bool true) ∧ Below w.heap.size w w' := by
  have g1 : (a.1 == b.1) = true := by simpa using he
  have g2 := str_other hne
  have SX : Hid (Six (((w.alloc (.cells #[.int .i64 a.1, .string a.2] 37)).alloc (.cells #[.int .i64 b.1, .string b.2] 37)).alloc (.cells #[.int .i64 c.1, .string c.2] 37)) w.heap.size (w.heap.size + 1) (w.heap.size + 1 + 1) (.int .i64 a.1) (.string a.2) (.int .i64 b.1) (.string b.2) (.int .i64 c.1) (.string c.2) (((w.alloc (.cells #[.int .i64 a.1, .string a.2] 37)).alloc (.cells #[.int .i64 b.1, .string b.2] 37)).alloc (.cells #[.int .i64 c.1, .string c.2] 37))) := Lib.hid ⟨Below.refl _ _, by rw [cell_alloc_old (by simp; omega), cell_alloc_old (by simp), cell_alloc rfl]; rfl, by rw [cell_alloc_old (by simp; omega), cell_alloc_old (by simp), cell_alloc rfl]; rfl, by rw [cell_alloc_old (by simp), cell_alloc (by simp)]; rfl, by rw [cell_alloc_old (by simp), cell_alloc (by simp)]; rfl, by rw [cell_alloc (by simp)]; rfl, by rw [cell_alloc (by simp)]; rfl⟩
  have BB := Lib.hid ((((Below.refl w.heap.size w).alloc (Nat.le_refl _) (.cells #[.int .i64 a.1, .string a.2] 37)).alloc (by simp) (.cells #[.int .i64 b.1, .string b.2] 37)).alloc (by simp; omega) (.cells #[.int .i64 c.1, .string c.2] 37))
  have LAA := Lib.hid (fun w => iless_cells a a false w (lessK_irr a))
  have LAB := Lib.hid (fun w => iless_cells a b _ w hab)
  have LBA := Lib.hid (fun w => iless_cells b a _ w hba)
  obtain ⟨a1, a2⟩ := a
  obtain ⟨b1, b2⟩ := b
  obtain ⟨c1, c2⟩ := c
  unfold keyV
  simp only at *
  clear he hne hab hba
  go_enter Try.func5, Try.ntmps5
  go_upto_region 3 with fail
  generalize ((w.alloc (.cells #[.int .i64 a1, .string a2] 37)).alloc (.cells #[.int .i64 b1, .string b2] 37)).alloc (.cells #[.int .i64 c1, .string c2] 37) = w1 at *
  obtain ⟨q, hq⟩ : ∃ q, w.heap.size + 1 = q := ⟨_, rfl⟩
  obtain ⟨r, hr⟩ : ∃ r, q + 1 = r := ⟨_, rfl⟩
  rw [hq, hr] at SX
  simp only [hq]
  simp only [hr]
  clear hr hq
  go_region_held3 (fun w' => Below w1.heap.size w1 w' ∧ w'.cell? ⟨w.heap.size, 0, none⟩ = some (.int .i64 a1) ∧ w'.cell? ⟨w.heap.size, 1, none⟩ = some (.string a2) ∧ w'.cell? ⟨q, 0, none⟩ = some (.int .i64 b1) ∧ w'.cell? ⟨q, 1, none⟩ = some (.string b2) ∧ w'.cell? ⟨r, 0, none⟩ = some (.int .i64 c1) ∧ w'.cell? ⟨r, 1, none⟩ = some (.string c2))
    (first | assumption | exact six_carry SX.out (Below.refl _ _).drew | exact six_carry (by assumption) (by assumption))
    (first | ((with_reducible refine (LAB.out _).mono ?_); rintro e w' ⟨rfl, hb⟩) | ((with_reducible refine (LBA.out _).mono ?_); rintro e w' ⟨rfl, hb⟩))
  all_goals
    rename_i T5
    have T6 := Lib.hid T5
    obtain ⟨-, y0, y1, y2, y3, y4, y5⟩ := T5
    clear SX LAB LBA
    go_wp2_with fail
    refine (LAA.out _).mono ?_
    rintro e v0 ⟨rfl, hb9⟩
    have T7 := Lib.hid (six_carry T6.out hb9)
    clear hb9 y0 y1 y2 y3 y4 y5
    obtain ⟨-, y0, y1, y2, y3, y4, y5⟩ := T7.out
    go_wp2_with fail
    refine (awake_any _).mono ?_
    rintro e w9 ⟨rfl, hb9⟩
    go_wp2_with fail
    go_ret
    exact ⟨rfl, BB.out.trans ((T7.out.1.trans (hb9.mono T7.out.1.size)).mono BB.out.size)⟩
set_option maxRecDepth 100000 in
set_option maxHeartbeats 3200000 in
theorem rankOrder_eq (a b c : KV) (w : World) (ha : a.2.size ≤ 100) (hb : b.2.size ≤ 100) (hc : c.2.size ≤ 100) (hab : lessK a b = false) (hba : lessK b a = false) (he : a = b) :
    Calls Try.prog 5 #[keyV a, keyV b, keyV c] w fun e w' => e = .returned (.bool true) ∧ Below w.heap.size w w' := by
  subst he
  have g1 : (a.1 == a.1) = true := by simp
  have g2 := str_same a.2
  have SX : Hid (Six (((w.alloc (.cells #[.int .i64 a.1, .string a.2] 37)).alloc (.cells #[.int .i64 a.1, .string a.2] 37)).alloc (.cells #[.int .i64 c.1, .string c.2] 37)) w.heap.size (w.heap.size + 1) (w.heap.size + 1 + 1) (.int .i64 a.1) (.string a.2) (.int .i64 a.1) (.string a.2) (.int .i64 c.1) (.string c.2) (((w.alloc (.cells #[.int .i64 a.1, .string a.2] 37)).alloc (.cells #[.int .i64 a.1, .string a.2] 37)).alloc (.cells #[.int .i64 c.1, .string c.2] 37))) := Lib.hid ⟨Below.refl _ _, by rw [cell_alloc_old (by simp; omega), cell_alloc_old (by simp), cell_alloc rfl]; rfl, by rw [cell_alloc_old (by simp; omega), cell_alloc_old (by simp), cell_alloc rfl]; rfl, by rw [cell_alloc_old (by simp), cell_alloc (by simp)]; rfl, by rw [cell_alloc_old (by simp), cell_alloc (by simp)]; rfl, by rw [cell_alloc (by simp)]; rfl, by rw [cell_alloc (by simp)]; rfl⟩
  have BB := Lib.hid ((((Below.refl w.heap.size w).alloc (Nat.le_refl _) (.cells #[.int .i64 a.1, .string a.2] 37)).alloc (by simp) (.cells #[.int .i64 a.1, .string a.2] 37)).alloc (by simp; omega) (.cells #[.int .i64 c.1, .string c.2] 37))
  have LAA := Lib.hid (fun w => iless_cells a a false w (lessK_irr a))
  have LAB := Lib.hid (fun w => iless_cells a a _ w hab)
  have LBA := Lib.hid (fun w => iless_cells a a _ w hba)
  obtain ⟨a1, a2⟩ := a
  obtain ⟨c1, c2⟩ := c
  unfold keyV
  simp only at *
  clear hab hba
  go_enter Try.func5, Try.ntmps5
  go_upto_region 3 with fail
  generalize ((w.alloc (.cells #[.int .i64 a1, .string a2] 37)).alloc (.cells #[.int .i64 a1, .string a2] 37)).alloc (.cells #[.int .i64 c1, .string c2] 37) = w1 at *
  obtain ⟨q, hq⟩ : ∃ q, w.heap.size + 1 = q := ⟨_, rfl⟩
  obtain ⟨r, hr⟩ : ∃ r, q + 1 = r := ⟨_, rfl⟩
  rw [hq, hr] at SX
  simp only [hq]
  simp only [hr]
  clear hr hq
  go_region_held3 (fun w' => Below w1.heap.size w1 w' ∧ w'.cell? ⟨w.heap.size, 0, none⟩ = some (.int .i64 a1) ∧ w'.cell? ⟨w.heap.size, 1, none⟩ = some (.string a2) ∧ w'.cell? ⟨q, 0, none⟩ = some (.int .i64 a1) ∧ w'.cell? ⟨q, 1, none⟩ = some (.string a2) ∧ w'.cell? ⟨r, 0, none⟩ = some (.int .i64 c1) ∧ w'.cell? ⟨r, 1, none⟩ = some (.string c2))
    (first | assumption | exact six_carry SX.out (Below.refl _ _).drew | exact six_carry (by assumption) (by assumption))
    (first | ((with_reducible refine (LAB.out _).mono ?_); rintro e w' ⟨rfl, hb⟩) | ((with_reducible refine (LBA.out _).mono ?_); rintro e w' ⟨rfl, hb⟩))
  all_goals
    rename_i T5
    have T6 := Lib.hid T5
    obtain ⟨-, y0, y1, y2, y3, y4, y5⟩ := T5
    clear SX LAB LBA
    go_wp2_with fail
    refine (LAA.out _).mono ?_
    rintro e v0 ⟨rfl, hb9⟩
    have T7 := Lib.hid (six_carry T6.out hb9)
    clear hb9 y0 y1 y2 y3 y4 y5
    obtain ⟨-, y0, y1, y2, y3, y4, y5⟩ := T7.out
    go_wp2_with fail
    refine (awake_any _).mono ?_
    rintro e w9 ⟨rfl, hb9⟩
    go_wp2_with fail
    go_ret
    exact ⟨rfl, BB.out.trans ((T7.out.1.trans (hb9.mono T7.out.1.size)).mono BB.out.size)⟩
theorem rankOrder_any (a b c : KV) (w : World) (ha : a.2.size ≤ 9223372036854775807) (hb : b.2.size ≤ 9223372036854775807) (hc : c.2.size ≤ 9223372036854775807) :
    Calls Try.prog 5 #[keyV a, keyV b, keyV c] w fun e w' => e = .returned (.bool true) ∧ Below w.heap.size w w' := by
  by_cases hs : a.2.size ≤ 100 ∧ b.2.size ≤ 100 ∧ c.2.size ≤ 100
  · obtain ⟨h1, h2, h3⟩ := hs
    have sw := ordK_swap a b
    rcases ordK_bd a b with e | e | e
    · have hne : a ≠ b := fun h => by rw [ordK_zero.2 h] at e; omega
      have hab : lessK a b = true := decide_eq_true (by omega)
      have hba : lessK b a = false := decide_eq_false (by omega)
      by_cases h4 : a.1 = b.1
      · have h5 : a.2 ≠ b.2 := fun h => hne (Prod.ext h4 h)
        by_cases hbc : lessK b c = true
        · exact rankOrder_lt1s a b c w h1 h2 h3 hab hba h4 h5 hbc (decide_eq_true (ordK_trans (of_decide_eq_true hab) (of_decide_eq_true hbc)))
        · exact rankOrder_lt0s a b c w h1 h2 h3 hab hba h4 h5 (by simpa using hbc)
      · by_cases hbc : lessK b c = true
        · exact rankOrder_lt1i a b c w h1 h2 h3 hab hba h4 hbc (decide_eq_true (ordK_trans (of_decide_eq_true hab) (of_decide_eq_true hbc)))
        · exact rankOrder_lt0i a b c w h1 h2 h3 hab hba h4 (by simpa using hbc)
    · exact rankOrder_eq a b c w h1 h2 h3 (decide_eq_false (by omega)) (decide_eq_false (by omega)) (ordK_zero.1 e)
    · have hne : a ≠ b := fun h => by rw [ordK_zero.2 h] at e; omega
      have hab : lessK a b = false := decide_eq_false (by omega)
      have hba : lessK b a = true := decide_eq_true (by omega)
      by_cases h4 : a.1 = b.1
      · exact rankOrder_gts a b c w h1 h2 h3 hab hba h4 (fun h => hne (Prod.ext h4 h))
      · exact rankOrder_gti a b c w h1 h2 h3 hab hba h4
  · have h4 : 100 < a.2.size ∨ (a.2.size ≤ 100 ∧ 100 < b.2.size) ∨ (a.2.size ≤ 100 ∧ b.2.size ≤ 100 ∧ 100 < c.2.size) := by omega
    obtain ⟨a1, a2⟩ := a
    obtain ⟨b1, b2⟩ := b
    obtain ⟨c1, c2⟩ := c
    unfold keyV
    simp only at *
    clear hs
    rcases h4 with h4 | ⟨h4, h5⟩ | ⟨h4, h5, h6⟩
    all_goals
      go_enter Try.func5, Try.ntmps5
      go_wp2_with fail
      refine (awake_any _).mono ?_
      rintro e w' ⟨rfl, hb9⟩
      go_wp2_with fail
      go_ret
      exact ⟨rfl, ((((Below.refl w.heap.size w).alloc (Nat.le_refl _) _).alloc (by simp) _).alloc (by simp; omega) _).trans (hb9.mono (by simp; omega))⟩
open Go.ChangeShapes Go.WideShapes Go.ChangeAt in
theorem rankOrder_walk {H : Type} {enc : TypeId × Value → H} (W : World) (base : Nat) (v0 v1 v2 : Value) (d0 d1 d2 : DataW H) (p0 p1 p2 : List MemPlace)
    (h0 : DataW.Trod enc Try.prog W 0 (fun _ => true) true 37 v0 d0 p0) (h1 : DataW.Trod enc Try.prog W 0 (fun _ => true) true 37 v1 d1 p1) (h2 : DataW.Trod enc Try.prog W 0 (fun _ => true) true 37 v2 d2 p2)
    (o0 : Value.okWide Try.prog W .any base 37 v0) (o1 : Value.okWide Try.prog W .any base 37 v1) (o2 : Value.okWide Try.prog W .any base 37 v2) :
    Calls Try.prog 5 #[v0, v1, v2] W fun e w' => e = .returned (.bool true) ∧ RowKit.Below W.heap.size W w' := by
  obtain ⟨a, ha, rfl⟩ := open_pair Try.underlying37 (by kernel_rfl) rfl rfl ⟨rfl, rfl⟩ ⟨rfl, rfl⟩ o0 h0
  obtain ⟨b, hb, rfl⟩ := open_pair Try.underlying37 (by kernel_rfl) rfl rfl ⟨rfl, rfl⟩ ⟨rfl, rfl⟩ o1 h1
  obtain ⟨c, hc, rfl⟩ := open_pair Try.underlying37 (by kernel_rfl) rfl rfl ⟨rfl, rfl⟩ ⟨rfl, rfl⟩ o2 h2
  exact rankOrder_any a b c W ha.2 hb.2 hc.2
end Go.Proofs.Ytioegheehodndaa
