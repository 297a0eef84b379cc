/- leases: contracts of the methods -/
import Derived.Test.YtphcmokcdaiphaaLb
namespace Go.Proofs.Ytphcmokcdaiphaa
open Go.RowKit
set_option linter.unusedVariables false
theorem extend_any (b o : Nat) (u t : Int) (w : World) (h1 : w.cell? ⟨b, o + 2, none⟩ = some (.int .i64 u)) (h2 : w.frozen? ⟨b, o + 2, none⟩ = false) :
    Calls Try.prog 25 #[.pointer (some ⟨b, o, none⟩), .int .i64 t] w fun e w' => e = .returned (.tuple #[]) ∧ w' = w.setCell ⟨b, o + 2, none⟩ (.int .i64 (max u t)) := by
  go_enter Try.func25, Try.ntmps25
  go_wp2
  · go_end0; exact ⟨rfl, by rw [Int.max_eq_right (by omega)]⟩
  · go_end0; exact ⟨rfl, by rw [Int.max_eq_left (by omega)]⟩
theorem has_nil (k : Int) (w : World) :
    Calls Try.prog 23 #[.pointer none, .int .i64 k] w fun e w' => e = .returned (.bool false) ∧ w = w' := by
  go_enter Try.func23, Try.ntmps23
  go_wp2_with fail
  go_ret
  exact ⟨rfl, rfl⟩
theorem has_yes {s : Lt} (b : Nat) (k : Int) (w : World) (h : Tab w b s) (hk : worker s k) :
    Calls Try.prog 23 #[.pointer (some ⟨b, 0, none⟩), .int .i64 k] w fun e w' => e = .returned (.bool true) ∧ w = w' := by
  have h0 := h.c0
  have H := Lib.hid hk
  clear h hk
  go_enter Try.func23, Try.ntmps23
  go_wp2_with fail
  refine (in_yes _ _ _ _ H.out).mono ?_
  rintro e w' ⟨rfl, rfl⟩
  go_wp2_with fail
  go_ret
  exact ⟨rfl, rfl⟩
theorem has_no {s : Lt} (b : Nat) (k : Int) (w : World) (h : Tab w b s) (hk : ¬ worker s k) :
    Calls Try.prog 23 #[.pointer (some ⟨b, 0, none⟩), .int .i64 k] w fun e w' => e = .returned (.bool false) ∧ w = w' := by
  have h0 := h.c0
  have H := Lib.hid hk
  clear h hk
  go_enter Try.func23, Try.ntmps23
  go_wp2_with fail
  refine (in_no _ _ _ _ H.out).mono ?_
  rintro e w' ⟨rfl, rfl⟩
  go_wp2_with fail
  go_ret
  exact ⟨rfl, rfl⟩

theorem sub_one {k : Int} (h : 1 ≤ k ∧ k ≤ 5) : IntKind.i64.wrap (k - 1) = (idx k : Int) ∧ idx k < 5 := by
  unfold idx; rw [IntWalk.i64_in _ (by omega)]; omega
theorem epoch_none {s : Lt} (b : Nat) (k : Int) (w : World) (h : Tab w b s) (hk : ¬ worker s k) :
    Calls Try.prog 17 #[.pointer (some ⟨b, 0, none⟩), .int .i64 k] w fun e w' => e = .returned (.int .i64 0) ∧ w = w' := by
  have H := Lib.hid h; have K := Lib.hid hk
  clear h hk
  go_enter Try.func17, Try.ntmps17
  go_wp2_with fail
  refine (has_no b k _ H.out K.out).mono ?_
  rintro e w' ⟨rfl, rfl⟩
  go_wp2_with fail
  go_ret
  exact ⟨rfl, rfl⟩
theorem epoch_some {s : Lt} (b : Nat) (k : Int) (w : World) (h : Tab w b s) (hg : Good s) (hk : worker s k) :
    Calls Try.prog 17 #[.pointer (some ⟨b, 0, none⟩), .int .i64 k] w fun e w' => e = .returned (.int .i64 (s.E (idx k))) ∧ w = w' := by
  obtain ⟨hw, hi⟩ := sub_one (k := k) ⟨hk.1, by have := hk.2; have := hg.n; omega⟩
  have hc := h.rs.ce (idx k) hi
  have H := Lib.hid h; have K := Lib.hid hk
  clear h hk hg
  generalize idx k = i at *
  go_enter Try.func17, Try.ntmps17
  go_wp2_with fail
  refine (has_yes b k _ H.out K.out).mono ?_
  rintro e w' ⟨rfl, rfl⟩
  go_wp2_with fail
  go_ret
  exact ⟨rfl, rfl⟩
theorem life_none {s : Lt} (b : Nat) (k : Int) (w : World) (h : Tab w b s) (hk : ¬ worker s k) :
    Calls Try.prog 18 #[.pointer (some ⟨b, 0, none⟩), .int .i64 k] w fun e w' => e = .returned (.int .i64 0) ∧ w = w' := by
  have H := Lib.hid h; have K := Lib.hid hk
  clear h hk
  go_enter Try.func18, Try.ntmps18
  go_wp2_with fail
  refine (has_no b k _ H.out K.out).mono ?_
  rintro e w' ⟨rfl, rfl⟩
  go_wp2_with fail
  go_ret
  exact ⟨rfl, rfl⟩
theorem life_some {s : Lt} (b : Nat) (k : Int) (w : World) (h : Tab w b s) (hg : Good s) (hk : worker s k) :
    Calls Try.prog 18 #[.pointer (some ⟨b, 0, none⟩), .int .i64 k] w fun e w' => e = .returned (.int .i64 (s.L (idx k))) ∧ w = w' := by
  obtain ⟨hw, hi⟩ := sub_one (k := k) ⟨hk.1, by have := hk.2; have := hg.n; omega⟩
  have hc := h.rs.cl (idx k) hi
  have H := Lib.hid h; have K := Lib.hid hk
  clear h hk hg
  generalize idx k = i at *
  go_enter Try.func18, Try.ntmps18
  go_wp2_with fail
  refine (has_yes b k _ H.out K.out).mono ?_
  rintro e w' ⟨rfl, rfl⟩
  go_wp2_with fail
  go_ret
  exact ⟨rfl, rfl⟩

theorem live_none {s : Lt} (b : Nat) (k t : Int) (w : World) (h : Tab w b s) (hk : ¬ worker s k) :
    Calls Try.prog 19 #[.pointer (some ⟨b, 0, none⟩), .int .i64 k, .int .i64 t] w fun e w' => e = .returned (.bool false) ∧ Below w.heap.size w w' := by
  have H := Lib.hid h; have K := Lib.hid hk
  clear h hk
  go_enter Try.func19, Try.ntmps19
  go_wp2_with fail
  refine (has_no b k _ H.out K.out).mono ?_
  rintro e w' ⟨rfl, rfl⟩
  go_wp2_with fail
  go_ret
  exact ⟨rfl, Below.refl _ _⟩
theorem live_some {s : Lt} (b : Nat) (k t : Int) (w : World) (h : Tab w b s) (hg : Good s) (hk : worker s k) :
    Calls Try.prog 19 #[.pointer (some ⟨b, 0, none⟩), .int .i64 k, .int .i64 t] w fun e w' => e = .returned (.bool (decide (0 < s.E (idx k) ∧ t ≤ s.U (idx k)))) ∧ Below w.heap.size w w' := by
  obtain ⟨hw, hi⟩ := sub_one (k := k) ⟨hk.1, by have := hk.2; have := hg.n; omega⟩
  have hc := h.rs.ce (idx k) hi
  have hd := h.rs.cl (idx k) hi
  have he := h.rs.cu (idx k) hi
  have hlt := h.lt
  have H := Lib.hid h; have K := Lib.hid hk
  clear h hk hg
  generalize idx k = i at *
  go_enter Try.func19, Try.ntmps19
  go_wp2_with fail
  refine (has_yes b k _ H.out K.out).mono ?_
  rintro e w' ⟨rfl, rfl⟩
  go_wp2_with fail
  all_goals
    go_ret
    refine ⟨ret_bool ?_, ?_⟩
    · simp [*] <;> omega
    · exact below_one w _

theorem sub_w {s : Lt} {k : Int} (hg : Good s) (hk : worker s k) : IntKind.i64.wrap (k - 1) = (idx k : Int) ∧ idx k < 5 := sub_one ⟨hk.1, by have := hk.2; have := hg.n; omega⟩
/-- the table behind a call -/
def Then (b : Nat) (w : World) (s : Lt) (w' : World) : Prop := Tab w' b s ∧ But b w w'
set_option maxHeartbeats 1600000 in
theorem seen_any {s : Lt} (b : Nat) (k e t : Int) (w : World) (h : Tab w b s) (hg : Good s) :
    Calls Try.prog 13 #[.pointer (some ⟨b, 0, none⟩), .int .i64 k, .int .i64 e, .int .i64 t] w fun r w' => r = .returned (.bool (decide (seenOk s k e t))) ∧ Then b w (seenS s k e t) w' := by
  have H := Lib.hid h
  by_cases hk : worker s k
  case neg =>
    have hno : ¬ seenOk s k e t := fun x => hk x.1
    rw [decide_eq_false hno]; unfold seenS; rw [if_neg hno]
    have K := Lib.hid hk
    clear h hk hno hg
    go_enter Try.func13, Try.ntmps13
    go_wp2_with fail
    refine (has_no b k _ H.out K.out).mono ?_
    rintro e w' ⟨rfl, rfl⟩
    go_wp2_with fail
    go_ret
    exact ⟨rfl, H.out, But.refl _ _⟩
  obtain ⟨hw, hi⟩ := sub_w hg hk
  have hc := h.rs.ce (idx k) hi
  have he := h.rs.cu (idx k) hi
  have hu := hg.u (idx k)
  have h1 := h.c1
  have hT := hg.t
  have hfr := h.fr (2 + idx k * 3 + 2)
  have K := Lib.hid hk
  by_cases ht : timed t
  case neg =>
    have hno : ¬ seenOk s k e t := fun x => ht x.2.1
    rw [decide_eq_false hno]; unfold seenS; rw [if_neg hno]
    have TT := Lib.hid ht
    clear h hk hno hg ht
    go_enter Try.func13, Try.ntmps13
    go_wp2_with fail
    refine (has_yes b k _ H.out K.out).mono ?_
    rintro e w' ⟨rfl, rfl⟩
    go_wp2_with fail
    refine (time_no t _ TT.out).mono ?_
    rintro e w' ⟨rfl, rfl⟩
    go_wp2_with fail
    go_ret
    exact ⟨rfl, H.out, But.refl _ _⟩
  by_cases hz : s.E (idx k) = 0 ∨ s.E (idx k) ≠ e
  · have hno : ¬ seenOk s k e t := fun x => by rcases hz with hz | hz; exact x.2.2.1 hz; exact hz x.2.2.2
    rw [decide_eq_false hno]; unfold seenS; rw [if_neg hno]
    have TT := Lib.hid ht
    clear h hk hno hg ht
    generalize idx k = i at *
    go_enter Try.func13, Try.ntmps13
    go_wp2_with fail
    refine (has_yes b k _ H.out K.out).mono ?_
    rintro e w' ⟨rfl, rfl⟩
    go_wp2_with fail
    refine (time_yes t _ TT.out).mono ?_
    rintro e w' ⟨rfl, rfl⟩
    rcases hz with hz | hz
    · go_wp2_with fail
      go_ret
      exact ⟨rfl, H.out, But.refl _ _⟩
    · have x1 : (s.E i != e) = true := by simpa using hz
      by_cases hz0 : s.E i = 0
      · go_wp2_with fail
        go_ret
        exact ⟨rfl, H.out, But.refl _ _⟩
      · have x0 : (s.E i == 0) = false := by simpa using hz0
        go_wp2_with fail
        go_ret
        exact ⟨rfl, H.out, But.refl _ _⟩
  · have hz1 : s.E (idx k) ≠ 0 := fun x => hz (Or.inl x)
    have hz2 : s.E (idx k) = e := by rcases Int.decEq (s.E (idx k)) e with x | x; exact absurd (Or.inr x) hz; exact x
    have hyes : seenOk s k e t := ⟨hk, ht, hz1, hz2⟩
    rw [decide_eq_true hyes]; unfold seenS; rw [if_pos hyes]
    have TT := Lib.hid ht
    have hadd : IntKind.i64.wrap (t + s.T) = t + s.T := IntWalk.i64_in _ (by unfold timed at ht; omega)
    clear h hk hg ht hyes hz
    have HE := Lib.hid hz2
    clear hz2
    generalize hidx : idx k = i at *
    go_enter Try.func13, Try.ntmps13
    go_wp2_with fail
    refine (has_yes b k _ H.out K.out).mono ?_
    rintro r w' ⟨rfl, rfl⟩
    go_wp2_with fail
    refine (time_yes t _ TT.out).mono ?_
    rintro r w' ⟨rfl, rfl⟩
    have hz2 := HE.out
    go_wp2_with fail
    refine (extend_any b _ (s.U i) _ w he hfr).mono ?_
    rintro r w' ⟨rfl, rfl⟩
    go_wp2_with fail
    go_ret
    exact ⟨rfl, H.out.setU i _ hi, But.setCell _ _ _ _⟩
theorem epoch_any {s : Lt} (b : Nat) (k : Int) (w : World) (h : Tab w b s) (hg : Good s) :
    Calls Try.prog 17 #[.pointer (some ⟨b, 0, none⟩), .int .i64 k] w fun e w' => e = .returned (.int .i64 (epochS s k)) ∧ w = w' := by
  unfold epochS
  split
  · exact epoch_some b k w h hg (by assumption)
  · exact epoch_none b k w h (by assumption)
theorem life_any {s : Lt} (b : Nat) (k : Int) (w : World) (h : Tab w b s) (hg : Good s) :
    Calls Try.prog 18 #[.pointer (some ⟨b, 0, none⟩), .int .i64 k] w fun e w' => e = .returned (.int .i64 (lifeS s k)) ∧ w = w' := by
  unfold lifeS
  split
  · exact life_some b k w h hg (by assumption)
  · exact life_none b k w h (by assumption)
theorem live_any {s : Lt} (b : Nat) (k t : Int) (w : World) (h : Tab w b s) (hg : Good s) :
    Calls Try.prog 19 #[.pointer (some ⟨b, 0, none⟩), .int .i64 k, .int .i64 t] w fun e w' => e = .returned (.bool (decide (liveOk s k t))) ∧ Below w.heap.size w w' := by
  by_cases hk : worker s k
  · have h1 : decide (liveOk s k t) = decide (0 < s.E (idx k) ∧ t ≤ s.U (idx k)) := by unfold liveOk; simp [hk]
    rw [h1]; exact live_some b k t w h hg hk
  · rw [decide_eq_false (fun x => hk x.1)]; exact live_none b k t w h hk
end Go.Proofs.Ytphcmokcdaiphaa
