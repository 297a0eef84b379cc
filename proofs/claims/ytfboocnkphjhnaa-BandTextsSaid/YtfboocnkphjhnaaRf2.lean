/- contracts of the document's Runes and Rows -/
import Derived.Test.YtfboocnkphjhnaaRf1
namespace Go.Proofs.Ytfboocnkphjhnaa
open Go.RowKit
set_option linter.unusedVariables false
theorem rruns_any (ra rb : List Int) (a b : Option Addr) (la lb ca cb : Nat) (w : World) (ha : HoldsI .i32 w a la ra) (hb : HoldsI .i32 w b lb rb) (hla : la ≤ 1048576) (hlb : lb ≤ 1048576) :
    Calls Try.prog 17 #[.slice a la ca, .slice b lb cb] w fun e w' => e = .returned (.int .i64 (Ed.L ra rb la lb)) ∧ Below w.heap.size w w' := by
  have HT := Lib.hid (table_any ra rb a b la lb ca cb w ha hb hla hlb)
  obtain ⟨n, hn⟩ : ∃ n, la + 1 = n := ⟨_, rfl⟩
  obtain ⟨m, hm⟩ : ∃ n, lb + 1 = n := ⟨_, rfl⟩
  rw [hn, hm] at HT
  have h1 : (la : Int) < (n : Int) := by omega
  have h2 : (lb : Int) < (m : Int) := by omega
  have h3 : (0 : Int) ≤ (la : Int) := by omega
  have h4 : (0 : Int) ≤ (lb : Int) := by omega
  have h5 : la < n := by omega
  have h6 : lb < m := by omega
  clear ha hb hn hm
  go_enter Try.func17, Try.ntmps17
  go_wp2_with fail
  refine HT.out.mono ?_
  rintro e w1 ⟨t, c, rfl, ⟨T, rfl, hrows⟩, hb1⟩
  obtain ⟨g, cg, hg, hx⟩ := hrows la h5
  have hl := hx lb h6
  have B1 := Lib.hid hb1
  obtain ⟨D, hD⟩ : ∃ D, Ed.L ra rb la lb = D := ⟨_, rfl⟩
  rw [hD] at hl
  have HD := Lib.hid hD
  clear hrows hx hb1 hD
  go_wp2_with fail
  go_ret
  exact ⟨by rw [HD.out]; rfl, B1.out⟩
theorem row_as (ra rb : List Int) (k : Nat) : Ed.row ra rb k = (List.range (ra.length + 1)).map fun i => Ed.L ra rb i k := rfl
def colL (ra rb : List Int) (m n : Nat) : List Int := (List.range n).map fun i => Ed.L ra rb i m
theorem colL_snoc (ra rb : List Int) (m n : Nat) : intsV (colL ra rb m (n + 1)) = intsV (colL ra rb m n) ++ [.int .i64 (Ed.L ra rb n m)] := by simp [colL, intsV, List.range_succ]
set_option maxHeartbeats 1600000 in
theorem rrows_any (ra rb : List Int) (a b : Option Addr) (la lb ca cb : Nat) (w : World) (ha : HoldsI .i32 w a la ra) (hb : HoldsI .i32 w b lb rb) (hla : la ≤ 1048576) (hlb : lb ≤ 1048576) :
    Calls Try.prog 19 #[.slice a la ca, .slice b lb cb] w fun e w' => ∃ o c, e = .returned (.slice o (la + 1) c) ∧ w'.ownsRow w.heap.size 3 1 (.slice o (la + 1) c) (la + 1) (intsV (Ed.row ra rb lb)) ∧ Below w.heap.size w w' := by
  obtain ⟨i0, hi, hz0, hz1, hz2⟩ := info_parts int_info
  have HT := Lib.hid (table_any ra rb a b la lb ca cb w ha hb hla hlb)
  have hrow : Ed.row ra rb lb = colL ra rb lb (la + 1) := by rw [row_as, ha.len]; rfl
  rw [hrow]
  obtain ⟨n, hn⟩ : ∃ n, la + 1 = n := ⟨_, rfl⟩
  obtain ⟨m, hm⟩ : ∃ n, lb + 1 = n := ⟨_, rfl⟩
  rw [hn, hm] at HT
  rw [hn]
  have h2 : (lb : Int) < (m : Int) := by omega
  have h4 : (0 : Int) ≤ (lb : Int) := by omega
  have h6 : lb < m := by omega
  have hnb : n ≤ 1048577 := by omega
  have HN := Lib.hid hn
  clear ha hb hm hrow hn
  go_enter Try.func19, Try.ntmps19
  go_wp2_with fail
  refine HT.out.mono ?_
  rintro e w1 ⟨t, c, rfl, hT1, hb1⟩
  have B1 := Lib.hid hb1
  have T1 := Lib.hid hT1
  clear hb1 hT1
  go_wp2_with fail
  go_loopw [6, 7] (fun ov iv wr => ∃ i : Nat, i ≤ n ∧ iv = .int .i64 i ∧ Hid (wr.ownsRow w1.heap.size 3 1 ov i (intsV (colL ra rb lb i))) ∧ Hid (Below w1.heap.size w1 wr)) (fun _ iv _ => n - (intOf iv).toNat)
  case atStart => exact ⟨0, by omega, rfl, Lib.hid (World.ownsRow_nil _ _ _ _), Lib.hid (Below.refl _ _)⟩
  case round =>
    obtain ⟨i, hi1, rfl, hO, hB⟩ := hrel
    by_cases hlt : i < n
    · obtain ⟨T, rfl, hrows⟩ := T1.out.below hB.out
      obtain ⟨g, cg, hg, hx⟩ := hrows i hlt
      have hl := hx lb h6
      have x1 : (i : Int) ≤ (la : Int) := by have := HN.out; omega
      have x2 : (i : Int) < (n : Int) := by omega
      have x3 : (0 : Int) ≤ (i : Int) := by omega
      obtain ⟨D, hD⟩ : ∃ D, Ed.L ra rb i lb = D := ⟨_, rfl⟩
      rw [hD] at hl
      have HD := Lib.hid hD
      clear hrows hx hD
      go_wp2_with (at_builtin; refine wpList_append_any rfl (.tmp 17) (.tmp 26) 26 rfl w1.heap.size 3 i0 (.int .i64 0) 1 8 Try.underlying26 hi hz0 hz1 hz2 rfl (by decide) _ i _ rfl (hO.out.alloc _) _ 1 1 _ rfl (some_none _) rfl (one_new _ _ _ _) (one_int _ _) (by unfold maxLen; omega) (by omega) (by have := hB.out.size; simp; omega) ?_; intro a3 c3 w3 hown3 hb3 hnil3)
      rw [← HD.out, ← colL_snoc] at hown3
      have O3 := Lib.hid hown3
      have B3 := Lib.hid ((hB.out.alloc hB.out.size _).trans hb3)
      clear hown3 hb3 hnil3 hO hB
      go_roundw
      case rel => exact ⟨i + 1, by omega, by go_num, O3, B3⟩
      case measure => simp [intOf]; omega
    · obtain rfl : i = n := by omega
      have x1 : ¬ (i : Int) ≤ (la : Int) := by have := HN.out; omega
      obtain ⟨g, cg, hu, _, _⟩ := RowAt.of_own hO.out (by have := HN.out; omega)
      subst hu
      go_wp2_with fail
      go_ret
      refine ⟨_, cg, rfl, ⟨hO.out.1, ?_⟩, B1.out.trans (hB.out.mono B1.out.size)⟩
      rcases hO.out.2 with ⟨h, _⟩ | ⟨g', c', cur, h, hg, r⟩
      · cases h
      · exact Or.inr ⟨g', c', cur, h, Nat.le_trans B1.out.size hg, r⟩
end Go.Proofs.Ytfboocnkphjhnaa
