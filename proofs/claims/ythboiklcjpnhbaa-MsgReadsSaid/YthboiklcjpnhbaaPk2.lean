/- wire: Sealed; a reader of bytes, field by field -/
import Derived.Test.YthboiklcjpnhbaaPk0
import Derived.Test.YthboiklcjpnhbaaCd5
import Derived.Test.YthboiklcjpnhbaaTn
import Derived.Deep.QuietTactic
import Derived.BigQuiet
namespace Go.Proofs.Ythboiklcjpnhbaa
open Go.RowKit
set_option linter.unusedVariables false
set_option maxRecDepth 20000
/-- the last four bytes are the sum of the others -/
def openB (bs : List Nat) : Bool := decide (4 ≤ bs.length) && decide (numN bs (bs.length - 4) 4 = Crc.sum (bs.take (bs.length - 4)))
theorem num4_lt (bs : List Nat) (k : Nat) (hb : ∀ b ∈ bs, b < 256) (hk : k + 4 ≤ bs.length) : numN bs k 4 < 4294967296 := numN_lt bs k 4 hb hk
theorem wrap_small (x : Nat) (h : x < 9223372036854775808) : wrap64 (x : Int) = (x : Int) := by unfold wrap64; omega
theorem wSealed_any (a : Option Addr) (n cap : Nat) (bs : List Nat) (w : World) (h : HoldsB w a n bs) (hn : n ≤ 1048576) (hc : n ≤ cap) :
    Calls Try.prog 46 #[.slice a n cap] w fun e w' => e = .returned (if openB bs then .tuple #[.slice a (n - 4) cap, .bool true] else .tuple #[.slice none 0 0, .bool false]) ∧ w = w' := by
  have hl := h.len
  by_cases h4 : 4 ≤ n
  · obtain ⟨k, hk⟩ : ∃ k, n - 4 = k := ⟨_, rfl⟩
    have e1 : (n : Int) - 4 = (k : Int) := by omega
    have CN := Lib.hid (num_yes a n cap bs k 4 w h (by omega) (by omega) (by omega) (by omega))
    have CS := Lib.hid (show Calls Try.prog 73 #[.slice a k cap] w fun e w' => e = .returned (.int .u32 (Crc.sum (bs.take k))) ∧ w = w' from by
      obtain ⟨q, o, rfl, -⟩ := h.at (by omega)
      exact sumOf_any (some ⟨q, o, none⟩) k cap (bs.take k) w (h.front k (by omega)) (by omega))
    obtain ⟨x, hx⟩ : ∃ x, numN bs k 4 = x := ⟨_, rfl⟩
    have hx4 : x < 4294967296 := by rw [← hx]; exact num4_lt bs k h.2 (by omega)
    obtain ⟨c, hcc⟩ : ∃ c, Crc.sum (bs.take k) = c := ⟨_, rfl⟩
    have hc4 : c < 4294967296 := by rw [← hcc]; exact sum_lt9 _
    rw [hx, wrap_small x (by omega), show ((4 : Nat) : Int) = 4 from rfl] at CN
    rw [hcc] at CS
    have OP := Lib.hid (show openB bs = decide (x = c) from by
      unfold openB
      rw [hl, hk, hx, hcc, decide_eq_true h4, Bool.true_and])
    have n1 : (0 : Int) ≤ (k : Int) := by omega
    have n2 : (k : Int) ≤ (cap : Int) := by omega
    have n3 : k ≤ cap := by omega
    rw [hk]
    clear hk hx hcc h hl
    by_cases he : x = c
    · subst he
      have OT := Lib.hid (show openB bs = true from by rw [OP.out]; simp)
      simp only [OT.out, if_true]
      go_enter Try.func46, Try.ntmps46
      go_wp2_with fail
      with_reducible refine CN.out.mono ?_
      rintro e w' ⟨rfl, rfl⟩
      go_wp2_with fail
      with_reducible refine CS.out.mono ?_
      rintro e w' ⟨rfl, rfl⟩
      go_wp2_with fail
      go_ret2
      exact ⟨rfl, rfl⟩
    · have OT := Lib.hid (show openB bs = false from by rw [OP.out]; simpa using he)
      simp only [OT.out, Bool.false_eq_true, if_false]
      have e2 : ((x : Int) != (c : Int)) = true := by rw [bne_iff_ne]; omega
      have e3 : ((x : Int) == (c : Int)) = false := by rw [beq_eq_false_iff_ne]; omega
      clear he
      go_enter Try.func46, Try.ntmps46
      go_wp2_with fail
      with_reducible refine CN.out.mono ?_
      rintro e w' ⟨rfl, rfl⟩
      go_wp2_with fail
      with_reducible refine CS.out.mono ?_
      rintro e w' ⟨rfl, rfl⟩
      go_wp2_with fail
      go_ret2
      exact ⟨rfl, rfl⟩
  · have CN := Lib.hid (num_no a n cap ((n : Int) - 4) 4 w (by omega) (by omega) (by omega))
    have OT := Lib.hid (show openB bs = false from by unfold openB; rw [hl, decide_eq_false h4, Bool.false_and])
    simp only [OT.out, Bool.false_eq_true, if_false]
    obtain ⟨k, hk⟩ : ∃ k : Int, (n : Int) - 4 = k := ⟨_, rfl⟩
    rw [hk] at CN
    clear h hl h4
    go_enter Try.func46, Try.ntmps46
    go_wp2_with fail
    with_reducible refine CN.out.mono ?_
    rintro e w' ⟨rfl, rfl⟩
    go_wp2_with fail
    go_ret2
    exact ⟨rfl, rfl⟩
theorem holdsB_turn {w w' : World} {a : Option Addr} {n : Nat} {bs : List Nat} {S : Nat → Prop} (h : HoldsB w a n bs) (t : Turn S w w') (hS : ∀ q o, a = some ⟨q, o, none⟩ → ¬ S q) : HoldsB w' a n bs := by
  refine ⟨⟨h.1.1, fun h0 => ?_⟩, h.2⟩
  obtain ⟨q, o, ha, hc⟩ := h.1.2 h0
  exact ⟨q, o, ha, fun i hi => (t.cell (lt_of_cell (hc i hi)) (hS q o ha)).trans (hc i hi)⟩
/-- a reader of these bytes, and how far it is -/
structure RdM (r : Nat) (a : Option Addr) (n cap : Nat) (bs : List Nat) (at_ : Nat) (bad : Bool) (w : World) : Prop where
  c0 : w.cell? ⟨r, 0, none⟩ = some (.slice a n cap)
  c1 : w.cell? ⟨r, 1, none⟩ = some (.int .i64 at_)
  c2 : w.cell? ⟨r, 2, none⟩ = some (.bool bad)
  f : ∀ i, w.frozen? ⟨r, i, none⟩ = false
  h : HoldsB w a n bs
  ne : ∀ q o, a = some ⟨q, o, none⟩ → q ≠ r
theorem RdM.turn {r : Nat} {a : Option Addr} {n cap : Nat} {bs : List Nat} {at_ : Nat} {bad : Bool} {w w' : World} {S : Nat → Prop} (m : RdM r a n cap bs at_ bad w) (t : Turn S w w') (hr : ¬ S r) (hS : ∀ q o, a = some ⟨q, o, none⟩ → ¬ S q) : RdM r a n cap bs at_ bad w' := by
  have lr := lt_of_cell m.c0
  exact ⟨(t.cell lr hr).trans m.c0, (t.cell lr hr).trans m.c1, (t.cell lr hr).trans m.c2, fun i => (t.frozen lr hr).trans (m.f i), holdsB_turn m.h t hS, m.ne⟩
def okR (n at_ s : Nat) (bad : Bool) : Bool := !bad && decide (at_ + s ≤ n)
def numR (bs : List Nat) (n at_ s : Nat) (bad : Bool) : Nat := if okR n at_ s bad then numN bs at_ s else 0
def atR (n at_ s : Nat) (bad : Bool) : Nat := if okR n at_ s bad then at_ + s else at_
theorem numR_lt (bs : List Nat) (n at_ s : Nat) (bad : Bool) (hb : ∀ b ∈ bs, b < 256) (hl : bs.length = n) : numR bs n at_ s bad < 256 ^ s := by
  unfold numR
  split
  · rename_i h
    unfold okR at h
    simp only [Bool.and_eq_true, decide_eq_true_eq] at h
    exact numN_lt bs at_ s hb (by omega)
  · exact Nat.pow_pos (by decide)
set_option maxHeartbeats 1600000 in
theorem rdNum_any (r : Nat) (a : Option Addr) (n cap : Nat) (bs : List Nat) (at_ : Nat) (bad : Bool) (s : Nat) (w : World) (m : RdM r a n cap bs at_ bad w) (hn : n ≤ 1048576) (hat : at_ ≤ n) (h1 : 1 ≤ s) (h4 : s ≤ 4) :
    Calls Try.prog 75 #[.pointer (some ⟨r, 0, none⟩), .int .i64 (s : Int)] w fun e w' => e = .returned (.int .i64 (numR bs n at_ s bad : Nat)) ∧ RdM r a n cap bs (atR n at_ s bad) (!okR n at_ s bad) w' ∧ Turn (fun k => k = r) w w' := by
  obtain ⟨c0, c1, c2, f, h, ne⟩ := m
  have M := Lib.hid (show RdM r a n cap bs at_ bad w from ⟨c0, c1, c2, f, h, ne⟩)
  have f1 := f 1
  have f2 := f 2
  have g0 := (World.cell?_of_block (w := w) (w' := w.drew) (a := ⟨r, 0, none⟩) rfl).trans c0
  have g1 := (World.cell?_of_block (w := w) (w' := w.drew) (a := ⟨r, 1, none⟩) rfl).trans c1
  have lr := lt_of_cell c0
  have STB := Lib.hid (show ∀ k, RdM r a n cap bs at_ true ((w.drewN k).setCell ⟨r, 2, none⟩ (.bool true)) ∧ Turn (fun q => q = r) w ((w.drewN k).setCell ⟨r, 2, none⟩ (.bool true)) from fun k => by
    have b := below_drewN w k
    have t : Turn (fun q => q = r) w ((w.drewN k).setCell ⟨r, 2, none⟩ (.bool true)) := (Turn.of_below b).trans (Turn.setCell rfl)
    exact ⟨⟨(cset_ne (by omega)).trans ((b.cell (p := ⟨r, 0, none⟩) lr).trans c0), (cset_ne (by omega)).trans ((b.cell (p := ⟨r, 1, none⟩) lr).trans c1), cset_at ((b.cell (p := ⟨r, 2, none⟩) lr).trans c2), fun i => fset_any.trans ((b.frozen (p := ⟨r, i, none⟩) lr).trans (f i)), holdsB_turn h t ne, ne⟩, t⟩)
  have STA := Lib.hid (show ∀ k (y : Nat), RdM r a n cap bs y bad ((w.drewN k).setCell ⟨r, 1, none⟩ (.int .i64 (y : Int))) ∧ Turn (fun q => q = r) w ((w.drewN k).setCell ⟨r, 1, none⟩ (.int .i64 (y : Int))) from fun k y => by
    have b := below_drewN w k
    have t : Turn (fun q => q = r) w ((w.drewN k).setCell ⟨r, 1, none⟩ (.int .i64 (y : Int))) := (Turn.of_below b).trans (Turn.setCell rfl)
    exact ⟨⟨(cset_ne (by omega)).trans ((b.cell (p := ⟨r, 0, none⟩) lr).trans c0), cset_at ((b.cell (p := ⟨r, 1, none⟩) lr).trans c1), (cset_ne (by omega)).trans ((b.cell (p := ⟨r, 2, none⟩) lr).trans c2), fun i => fset_any.trans ((b.frozen (p := ⟨r, i, none⟩) lr).trans (f i)), holdsB_turn h t ne, ne⟩, t⟩)
  by_cases hle : at_ + s ≤ n
  · have CN := Lib.hid (fun w' (hb : Below w.heap.size w w') => (show Calls Try.prog 45 #[.slice a n cap, .int .i64 (at_ : Int), .int .i64 (s : Int)] w' fun e w'' => e = .returned (.tuple #[.int .i64 (numN bs at_ s : Nat), .bool true]) ∧ w' = w'' from by
      have h2 := num_yes a n cap bs at_ s w' (h.below hb) (by omega) h1 (by omega) hle
      rw [wrap_small _ (by
        have h3 := numN_lt bs at_ s h.2 (by rw [h.len]; omega)
        have h5 : 256 ^ s ≤ 256 ^ 4 := Nat.pow_le_pow_right (by decide) h4
        have : (256 : Nat) ^ 4 = 4294967296 := by decide
        omega)] at h2
      exact h2))
    cases bad with
    | false =>
      have e1 : okR n at_ s false = true := by unfold okR; simpa using hle
      have EN : numR bs n at_ s false = numN bs at_ s := by unfold numR; rw [e1]; rfl
      have EA : atR n at_ s false = at_ + s := by unfold atR; rw [e1]; rfl
      rw [EN, EA, e1]
      have e2 : (at_ : Int) + (s : Int) = ((at_ + s : Nat) : Int) := by omega
      obtain ⟨y, hy⟩ : ∃ y, at_ + s = y := ⟨_, rfl⟩
      rw [hy] at e2 ⊢
      clear hle h f hy e1 EN EA
      go_enter Try.func75, Try.ntmps75
      go_wp2_with fail
      go_quiet ((go_at_call 45; exact Calls.quiet_of_same ((CN.out _ (by first | exact (Below.refl _ _).drew | exact below_drewN _ _)).mono (fun _ _ h => ⟨h.1, h.2.symm⟩))))
      go_wp2_with fail
      go_ret
      exact ⟨rfl, STA.out nq y⟩
    | true =>
      have e1 : okR n at_ s true = false := rfl
      have EN : numR bs n at_ s true = 0 := rfl
      have EA : atR n at_ s true = at_ := rfl
      rw [EN, EA, e1]
      clear hle h f e1 EN EA
      go_enter Try.func75, Try.ntmps75
      go_wp2_with fail
      go_quiet ((go_at_call 45; exact Calls.quiet_of_same ((CN.out _ (by first | exact (Below.refl _ _).drew | exact below_drewN _ _)).mono (fun _ _ h => ⟨h.1, h.2.symm⟩))))
      go_wp2_with fail
      go_ret
      exact ⟨rfl, STB.out nq⟩
  · have CN := Lib.hid (fun w' => (show Calls Try.prog 45 #[.slice a n cap, .int .i64 (at_ : Int), .int .i64 (s : Int)] w' fun e w'' => e = .returned (.tuple #[.int .i64 0, .bool false]) ∧ w' = w'' from
      num_no a n cap at_ s w' (by omega) (by omega) (by omega)))
    have e1 : okR n at_ s bad = false := by unfold okR; rw [decide_eq_false hle, Bool.and_false]
    have EN : numR bs n at_ s bad = 0 := by unfold numR; rw [e1]; rfl
    have EA : atR n at_ s bad = at_ := by unfold atR; rw [e1]; rfl
    rw [EN, EA, e1]
    clear hle h f e1 EN EA
    cases bad
    all_goals
      go_enter Try.func75, Try.ntmps75
      go_wp2_with fail
      go_quiet ((go_at_call 45; exact Calls.quiet_of_same ((CN.out _).mono (fun _ _ h => ⟨h.1, h.2.symm⟩))))
      go_wp2_with fail
      go_ret
      exact ⟨rfl, STB.out nq⟩
theorem rdRead_any (a : Option Addr) (n cap : Nat) (bs : List Nat) (w : World) (h : HoldsB w a n bs) (ha : ∀ q o, a = some ⟨q, o, none⟩ → q < w.heap.size) :
    Calls Try.prog 74 #[.slice a n cap] w fun e w' => e = .returned (.pointer (some ⟨w.heap.size, 0, none⟩)) ∧ RdM w.heap.size a n cap bs 0 false w' ∧ Below w.heap.size w w' ∧ w'.heap.size = w.heap.size + 1 := by
  have FIN := Lib.hid (show RdM w.heap.size a n cap bs 0 false (w.alloc (.cells #[.slice a n cap, .int .i64 0, .bool false] 121)) from
    ⟨by rw [cell_alloc rfl]; rfl, by rw [cell_alloc rfl]; rfl, by rw [cell_alloc rfl]; rfl, fun i => frozen_alloc rfl, h.below (below_one _ _), fun q o e => by have := ha q o e; omega⟩)
  have B := Lib.hid (below_one w (.cells #[.slice a n cap, .int .i64 0, .bool false] 121))
  clear h ha
  go_enter Try.func74, Try.ntmps74
  go_wp2_with fail
  go_ret
  exact ⟨rfl, FIN.out, B.out, by simp⟩
end Go.Proofs.Ythboiklcjpnhbaa
