/- which of two items is ahead: rank.order, rank.Less -/
import Derived.Test.YthboiklcjpnhbaaKp2
import Derived.Test.YthboiklcjpnhbaaRk0
import Derived.Deep.RegionHeld3
import Derived.Sort.Grow
namespace Go.Proofs.Ythboiklcjpnhbaa
open Go.RowKit Go.Sort
set_option linter.unusedVariables false
set_option maxRecDepth 20000
/-- nothing has turned; blocks have been laid, and answers drawn -/
def Grows (w w' : World) : Prop := ∃ q os, w' = grow (w.drewN q) os
theorem Grows.refl (w : World) : Grows w w := ⟨0, #[], by simp [World.drewN]⟩
theorem Grows.drew {w w' : World} (h : Grows w w') : Grows w w'.drew := by
  obtain ⟨q, os, rfl⟩ := h
  exact ⟨q + 1, os, rfl⟩
theorem Grows.drewN {w w' : World} (h : Grows w w') (n : Nat) : Grows w (w'.drewN n) := by
  obtain ⟨q, os, rfl⟩ := h
  refine ⟨q + n, os, ?_⟩
  simp [World.drewN, grow, Nat.add_assoc]
theorem Grows.alloc {w w' : World} (h : Grows w w') (o : Obj) : Grows w (w'.alloc o) := by
  obtain ⟨q, os, rfl⟩ := h
  exact ⟨q, os ++ #[o], by rw [alloc_eq_grow, grow_grow]⟩
theorem Grows.below {w w' : World} (h : Grows w w') : Below w.heap.size w w' := by
  obtain ⟨q, os, rfl⟩ := h
  exact ⟨rfl, rfl, rfl, by simp [grow, World.drewN], fun k hk => heap_grow_old (w.drewN q) os hk⟩
theorem Grows.trans {w w1 w2 : World} (h : Grows w w1) (k : Grows w1 w2) : Grows w w2 := by
  obtain ⟨q, os, rfl⟩ := k
  exact (h.drewN q).elim fun p ⟨os', e⟩ => ⟨p, os' ++ os, by rw [e, grow_grow]⟩
def Box4g (w0 : World) (p q : Nat) (v0 v1 v2 v3 : Value) (w : World) : Prop := Grows w0 w ∧ w.cell? ⟨p, 0, none⟩ = some v0 ∧ w.cell? ⟨p, 1, none⟩ = some v1 ∧ w.cell? ⟨q, 0, none⟩ = some v2 ∧ w.cell? ⟨q, 1, none⟩ = some v3
theorem box4g_carry {w0 w w' : World} {p q : Nat} {v0 v1 v2 v3 : Value} (h : Box4g w0 p q v0 v1 v2 v3 w) (hb : Grows w w') : Box4g w0 p q v0 v1 v2 v3 w' :=
  have hb' := hb.below
  ⟨h.1.trans hb, by rw [hb'.cell (p := ⟨p, 0, none⟩) (lt_of_cell h.2.1)]; exact h.2.1, by rw [hb'.cell (p := ⟨p, 1, none⟩) (lt_of_cell h.2.1)]; exact h.2.2.1, by rw [hb'.cell (p := ⟨q, 0, none⟩) (lt_of_cell h.2.2.2.1)]; exact h.2.2.2.1, by rw [hb'.cell (p := ⟨q, 1, none⟩) (lt_of_cell h.2.2.2.1)]; exact h.2.2.2.2⟩
set_option maxHeartbeats 3200000 in
theorem iorder_grows (a b : KV) (w : World) :
    Calls Try.prog 101 #[keyV a, keyV b] w fun e w' => e = .returned (.int .i64 (ordK a b)) ∧ Grows w w' := by
  obtain ⟨a1, a2⟩ := a
  obtain ⟨b1, b2⟩ := b
  have hv := ordK_or (a1, a2) (b1, b2)
  obtain ⟨v, hv2⟩ : ∃ v, ordK (a1, a2) (b1, b2) = v := ⟨_, rfl⟩
  rw [hv2] at hv ⊢
  simp only at hv
  unfold keyV
  simp only
  have C1 := Lib.hid (fun w => compareZ_any a1 b1 w)
  have C2 := Lib.hid (fun w => compare_any a2 b2 w)
  obtain ⟨x, hx⟩ : ∃ x, cmpZ a1 b1 = x := ⟨_, rfl⟩
  obtain ⟨y, hy⟩ : ∃ y, cmpS a2 b2 = y := ⟨_, rfl⟩
  rw [hx] at C1 hv; rw [hy] at C2 hv
  have HV := Lib.hid hv
  clear hv hv2 hx hy
  go_enter Try.func101, Try.ntmps101
  go_upto_region 1 with fail
  have e0 : ((w.alloc (.cells #[.int .i64 a1, .string a2] 27)).alloc (.cells #[.int .i64 b1, .string b2] 27)).cell? ⟨w.heap.size, 0, none⟩ = some (.int .i64 a1) := by simp
  have e1 : ((w.alloc (.cells #[.int .i64 a1, .string a2] 27)).alloc (.cells #[.int .i64 b1, .string b2] 27)).cell? ⟨w.heap.size, 1, none⟩ = some (.string a2) := by simp
  have e2 : ((w.alloc (.cells #[.int .i64 a1, .string a2] 27)).alloc (.cells #[.int .i64 b1, .string b2] 27)).cell? ⟨w.heap.size + 1, 0, none⟩ = some (.int .i64 b1) := by simp
  have e3 : ((w.alloc (.cells #[.int .i64 a1, .string a2] 27)).alloc (.cells #[.int .i64 b1, .string b2] 27)).cell? ⟨w.heap.size + 1, 1, none⟩ = some (.string b2) := by simp
  have BB := Lib.hid (((Grows.refl w).alloc (.cells #[.int .i64 a1, .string a2] 27)).alloc (.cells #[.int .i64 b1, .string b2] 27))
  generalize (w.alloc (.cells #[.int .i64 a1, .string a2] 27)).alloc (.cells #[.int .i64 b1, .string b2] 27) = w1 at *
  obtain ⟨q, hq⟩ : ∃ q, w.heap.size + 1 = q := ⟨_, rfl⟩
  rw [hq] at e2 e3 ⊢
  have T := Lib.hid (show Box4g w1 w.heap.size q (.int .i64 a1) (.string a2) (.int .i64 b1) (.string b2) w1 from ⟨Grows.refl _, e0, e1, e2, e3⟩)
  clear e0 e1 e2 e3 hq
  go_region_held3 (fun w' => Grows w1 w' ∧ w'.cell? ⟨w.heap.size, 0, none⟩ = some (.int .i64 a1) ∧ w'.cell? ⟨w.heap.size, 1, none⟩ = some (.string a2) ∧ w'.cell? ⟨q, 0, none⟩ = some (.int .i64 b1) ∧ w'.cell? ⟨q, 1, none⟩ = some (.string b2))
    (first | assumption | exact box4g_carry T.out ((Grows.refl _).drewN _) | exact box4g_carry T.out (Grows.refl _).drew | exact box4g_carry (by assumption) ((Grows.refl _).alloc _) | exact box4g_carry (by assumption) (by assumption))
    (first
      | (go_at_call 106; refine (C1.out _).mono ?_; rintro e w' ⟨rfl, rfl⟩)
      | (go_at_call 107; refine (C2.out _).mono ?_; rintro e w' ⟨rfl, rfl⟩)
      | (go_at_call 105; refine (or_any _ _ x y _ (by simp) (by simp)).mono ?_; rintro e w' ⟨rfl, rfl⟩))
  rename_i T5
  obtain ⟨hb5, -⟩ := T5
  go_wp2_with fail
  go_ret
  exact ⟨ret_int HV.out.symm, BB.out.trans hb5⟩
theorem iorder_any (a b : KV) (w : World) :
    Calls Try.prog 101 #[keyV a, keyV b] w fun e w' => e = .returned (.int .i64 (ordK a b)) ∧ Below w.heap.size w w' :=
  (iorder_grows a b w).mono fun _ _ h => ⟨h.1, h.2.below⟩
theorem iless_any (a b : KV) (w : World) :
    Calls Try.prog 83 #[keyV a, keyV b] w fun e w' => e = .returned (.bool (lessK a b)) ∧ Below w.heap.size w w' := by
  obtain ⟨v, hv⟩ : ∃ v, ordK a b = v := ⟨_, rfl⟩
  have hl : lessK a b = decide (v < 0) := by unfold lessK; rw [hv]
  have O := Lib.hid (fun w => iorder_any a b w)
  rw [hv] at O
  rw [hl]
  clear hl hv
  obtain ⟨a1, a2⟩ := a
  obtain ⟨b1, b2⟩ := b
  unfold keyV at *
  simp only at *
  go_enter Try.func83, Try.ntmps83
  go_wp2_with fail
  refine (O.out _).mono ?_
  rintro e w' ⟨rfl, hb⟩
  go_wp2_with fail
  go_ret
  exact ⟨rfl, (((Below.refl _ _).alloc (Nat.le_refl _) _).alloc (by simp) _).trans (hb.mono (by simp; omega))⟩
theorem iless_lit (a b : KV) (c : Bool) (w : World) (h : lessK a b = c) :
    Calls Try.prog 83 #[keyV a, keyV b] w fun e w' => e = .returned (.bool c) ∧ Below w.heap.size w w' := by subst h; exact iless_any a b w
end Go.Proofs.Ythboiklcjpnhbaa
