/- leases: the document's own table, in memory; contracts of its functions -/
import Derived.Test.YtphcmokcdaiphaaLe
import Derived.Test.YtphcmokcdaiphaaLm
namespace Go.Proofs.Ytphcmokcdaiphaa
open Go.RowKit
set_option linter.unusedVariables false
structure RTab (w : World) (b : Nat) (s : Lt) : Prop where
  cn : w.cell? ⟨b, 18, none⟩ = some (.int .i64 s.N)
  ct : w.cell? ⟨b, 19, none⟩ = some (.int .i64 s.T)
  rs : Rec3 w b 3 5 s.E s.L s.U
  fr : ∀ i, w.frozen? ⟨b, i, none⟩ = false
theorem RTab.lt {w : World} {b : Nat} {s : Lt} (h : RTab w b s) : b < w.heap.size := lt_of_cell h.cn
theorem RTab.block {w w' : World} {b : Nat} {s : Lt} (h : RTab w b s) (hb : w'.heap[b]? = w.heap[b]?) : RTab w' b s := by
  have hc : ∀ i, w'.cell? ⟨b, i, none⟩ = w.cell? ⟨b, i, none⟩ := fun i => World.cell?_of_block (w := w) hb
  exact ⟨by rw [hc]; exact h.cn, by rw [hc]; exact h.ct, h.rs.carry hc, fun i => by rw [World.frozen?_of_block (w := w) hb]; exact h.fr i⟩
theorem RTab.below {w w' : World} {b : Nat} {s : Lt} (h : RTab w b s) (hb : Below w.heap.size w w') : RTab w' b s := h.block (hb.block b h.lt)
theorem RTab.but {w w' : World} {b c : Nat} {s : Lt} (h : RTab w b s) (hb : But c w w') (hc : b ≠ c) : RTab w' b s := h.block (hb.block b h.lt hc)
theorem RTab.at {w : World} {b : Nat} {s : Lt} (h : RTab w b s) {i : Nat} (hi : i < 5) : w.cell? ⟨b, (i + 1) * 3, none⟩ = some (.int .i64 (s.E i)) ∧ w.cell? ⟨b, (i + 1) * 3 + 1, none⟩ = some (.int .i64 (s.L i)) ∧ w.cell? ⟨b, (i + 1) * 3 + 2, none⟩ = some (.int .i64 (s.U i)) := by
  have e : (i + 1) * 3 = 3 + i * 3 := by omega
  rw [e]; exact ⟨h.rs.ce i hi, h.rs.cl i hi, h.rs.cu i hi⟩
theorem RTab.setE {w : World} {b : Nat} {s : Lt} (h : RTab w b s) (i : Nat) (v : Int) (hi : i < 5) : RTab (w.setCell ⟨b, (i + 1) * 3, none⟩ (.int .i64 v)) b { s with E := upd s.E i v } := by
  rw [show (i + 1) * 3 = 3 + i * 3 by omega]
  exact ⟨by rw [set_ne (by omega)]; exact h.cn, by rw [set_ne (by omega)]; exact h.ct, h.rs.setE i v hi, fun j => by rw [frozen_set]; exact h.fr j⟩
theorem RTab.setL {w : World} {b : Nat} {s : Lt} (h : RTab w b s) (i : Nat) (v : Int) (hi : i < 5) : RTab (w.setCell ⟨b, (i + 1) * 3 + 1, none⟩ (.int .i64 v)) b { s with L := upd s.L i v } := by
  rw [show (i + 1) * 3 = 3 + i * 3 by omega]
  exact ⟨by rw [set_ne (by omega)]; exact h.cn, by rw [set_ne (by omega)]; exact h.ct, h.rs.setL i v hi, fun j => by rw [frozen_set]; exact h.fr j⟩
theorem RTab.setU {w : World} {b : Nat} {s : Lt} (h : RTab w b s) (i : Nat) (v : Int) (hi : i < 5) : RTab (w.setCell ⟨b, (i + 1) * 3 + 2, none⟩ (.int .i64 v)) b { s with U := upd s.U i v } := by
  rw [show (i + 1) * 3 = 3 + i * 3 by omega]
  exact ⟨by rw [set_ne (by omega)]; exact h.cn, by rw [set_ne (by omega)]; exact h.ct, h.rs.setU i v hi, fun j => by rw [frozen_set]; exact h.fr j⟩
def RThen (b : Nat) (w : World) (s : Lt) (w' : World) : Prop := RTab w' b s ∧ But b w w'
theorem idx_nat (i : Nat) : idx ((i + 1 : Nat) : Int) = i := by unfold idx; omega
theorem worker_nat {s : Lt} {k : Int} (hg : Good s) (h : worker s k) : ∃ i : Nat, k = ((i + 1 : Nat) : Int) ∧ i < 5 := ⟨idx k, by have := h.1; unfold idx; omega, by have := h.2; have := h.1; have := hg.n; unfold idx; omega⟩
theorem rnew_bad (n t : Int) (w : World) (h : ¬ ((1 ≤ n ∧ n ≤ 5) ∧ 1 ≤ t ∧ t ≤ 1000)) :
    Calls Try.prog 11 #[.int .i64 n, .int .i64 t] w fun e w' => e = .returned (.tuple #[.pointer none, .int .i64 2]) ∧ w = w' := by
  have h1 : n < 1 ∨ (1 ≤ n ∧ 5 < n) ∨ (1 ≤ n ∧ n ≤ 5 ∧ t < 1) ∨ (1 ≤ n ∧ n ≤ 5 ∧ 1 ≤ t ∧ 1000 < t) := by omega
  clear h
  rcases h1 with h1 | ⟨h1, h2⟩ | ⟨h1, h2, h3⟩ | ⟨h1, h2, h3, h4⟩
  all_goals
    go_enter Try.func11, Try.ntmps11
    go_wp2_with fail
    go_ret2
    exact ⟨rfl, rfl⟩
theorem rnew_good (n t : Int) (w : World) (h : (1 ≤ n ∧ n ≤ 5) ∧ 1 ≤ t ∧ t ≤ 1000) :
    Calls Try.prog 11 #[.int .i64 n, .int .i64 t] w fun e w' => e = .returned (.tuple #[.pointer (some ⟨w.heap.size, 0, none⟩), .int .i64 0]) ∧
      RTab w' w.heap.size (newS n t) ∧ Below w.heap.size w w' := by
  obtain ⟨⟨h1, h2⟩, h3, h4⟩ := h
  go_enter Try.func11, Try.ntmps11
  go_wp2_with fail
  go_ret2
  refine ⟨rfl, ⟨by simp [newS], by simp [newS], ⟨fun i hi => ?_, fun i hi => ?_, fun i hi => ?_⟩, fun i => by simp⟩, below_one w _⟩
  all_goals
    match i, hi with
    | 0, _ => simp [newS]
    | 1, _ => simp [newS]
    | 2, _ => simp [newS]
    | 3, _ => simp [newS]
    | 4, _ => simp [newS]
theorem is_any {s : Lt} (b : Nat) (k : Int) (w : World) (h : RTab w b s) :
    Calls Try.prog 26 #[.pointer (some ⟨b, 0, none⟩), .int .i64 k] w fun e w' => e = .returned (.bool (decide (worker s k))) ∧ w = w' := by
  have h0 := h.cn
  clear h
  have h1 : k < 1 ∨ (1 ≤ k ∧ k ≤ s.N) ∨ (1 ≤ k ∧ s.N < k) := by omega
  rcases h1 with h1 | ⟨h1, h2⟩ | ⟨h1, h2⟩
  · rw [decide_eq_false (by unfold worker; omega)]
    go_enter Try.func26, Try.ntmps26
    go_wp2_with fail
    go_ret
    exact ⟨rfl, rfl⟩
  · rw [decide_eq_true (show worker s k from ⟨h1, h2⟩)]
    have x1 : decide (k ≤ s.N) = true := by simpa using h2
    go_enter Try.func26, Try.ntmps26
    go_wp2_with fail
    go_ret
    exact ⟨ret_bool (by simp [*]), rfl⟩
  · rw [decide_eq_false (by unfold worker; omega)]
    have x1 : decide (k ≤ s.N) = false := by simpa using h2
    go_enter Try.func26, Try.ntmps26
    go_wp2_with fail
    go_ret
    exact ⟨ret_bool (by simp [*]), rfl⟩
theorem is_yes {s : Lt} (b : Nat) (k : Int) (w : World) (h : RTab w b s) (hk : worker s k) :
    Calls Try.prog 26 #[.pointer (some ⟨b, 0, none⟩), .int .i64 k] w fun e w' => e = .returned (.bool true) ∧ w = w' := by
  have := is_any b k w h; rw [decide_eq_true hk] at this; exact this
theorem is_no {s : Lt} (b : Nat) (k : Int) (w : World) (h : RTab w b s) (hk : ¬ worker s k) :
    Calls Try.prog 26 #[.pointer (some ⟨b, 0, none⟩), .int .i64 k] w fun e w' => e = .returned (.bool false) ∧ w = w' := by
  have := is_any b k w h; rw [decide_eq_false hk] at this; exact this
theorem rlive_any {s : Lt} (b : Nat) (k t : Int) (w : World) (h : RTab w b s) (hg : Good s) :
    Calls Try.prog 20 #[.pointer (some ⟨b, 0, none⟩), .int .i64 k, .int .i64 t] w fun e w' => e = .returned (.bool (decide (liveOk s k t))) ∧ w = w' := by
  by_cases hk : worker s k
  · obtain ⟨i, rfl, hi⟩ := worker_nat hg hk
    obtain ⟨c1, c2, c3⟩ := h.at hi
    have K := Lib.hid hk; have H := Lib.hid h
    have h1 : decide (liveOk s ((i + 1 : Nat) : Int) t) = (decide (0 < s.E i) && decide (t ≤ s.U i)) := by
      have : liveOk s ((i + 1 : Nat) : Int) t ↔ (0 < s.E i ∧ t ≤ s.U i) := by unfold liveOk; rw [idx_nat]; exact ⟨fun x => x.2, fun x => ⟨hk, x⟩⟩
      rw [Bool.eq_iff_iff]; simp only [decide_eq_true_eq, Bool.and_eq_true]; exact this
    rw [h1]
    have q1 : (0 : Int) ≤ ((i + 1 : Nat) : Int) := by omega
    have q2 : ((i + 1 : Nat) : Int) < 6 := by omega
    clear h1 hk h hg c2
    generalize i + 1 = n at *
    by_cases he : 0 < s.E i
    · go_enter Try.func20, Try.ntmps20
      go_wp2_with fail
      refine (is_yes b _ _ H.out K.out).mono ?_
      rintro e w' ⟨rfl, rfl⟩
      go_wp2_with fail
      go_ret
      exact ⟨ret_bool (by simp [*]), rfl⟩
    · have x1 : decide (0 < s.E i) = false := by simpa using he
      rw [x1]
      go_enter Try.func20, Try.ntmps20
      go_wp2_with fail
      refine (is_yes b _ _ H.out K.out).mono ?_
      rintro e w' ⟨rfl, rfl⟩
      go_wp2_with fail
      go_ret
      exact ⟨ret_bool (by simp [*]), rfl⟩
  · have K := Lib.hid hk; have H := Lib.hid h
    rw [decide_eq_false (fun x => hk x.1)]
    clear hk h hg
    go_enter Try.func20, Try.ntmps20
    go_wp2_with fail
    refine (is_no b _ _ H.out K.out).mono ?_
    rintro e w' ⟨rfl, rfl⟩
    go_wp2_with fail
    go_ret
    exact ⟨rfl, rfl⟩
end Go.Proofs.Ytphcmokcdaiphaa
