/- leases: contract of awake; of no table -/
import Derived.Test.YtphcmokcdaiphaaLd
namespace Go.Proofs.Ytphcmokcdaiphaa
open Go.RowKit
set_option linter.unusedVariables false
theorem hello_lit {s s' : Lt} {e n : Int} (b : Nat) (k f t : Int) (w : World) (h : Tab w b s) (hg : Good s) (h1 : helloE s k f t = e) (h2 : helloN s k f t = n) (h3 : helloS s k f t = s') :
    Calls Try.prog 15 #[.pointer (some ⟨b, 0, none⟩), .int .i64 k, .int .i64 f, .int .i64 t] w fun r w' => r = .returned (.tuple #[.int .i64 e, .int .i64 n]) ∧ Then b w s' w' := by
  subst h1 h2 h3; exact hello_any b k f t w h hg
theorem live_lit {s : Lt} {x : Bool} (b : Nat) (k t : Int) (w : World) (h : Tab w b s) (hg : Good s) (h1 : decide (liveOk s k t) = x) :
    Calls Try.prog 19 #[.pointer (some ⟨b, 0, none⟩), .int .i64 k, .int .i64 t] w fun e w' => e = .returned (.bool x) ∧ Below w.heap.size w w' := by
  subst h1; exact live_any b k t w h hg
theorem awake_any (w : World) :
    Calls Try.prog 9 #[] w fun e w' => e = .returned (.bool true) ∧ Below w.heap.size w w' := by
  have hn : (1 ≤ (2 : Int) ∧ (2 : Int) ≤ 5) ∧ 1 ≤ (5 : Int) ∧ (5 : Int) ≤ 1000 := by omega
  have g0 := Lib.hid (new_is_good hn)
  obtain ⟨s1, hs1⟩ : ∃ s1, helloS (newS 2 5) 1 1 0 = s1 := ⟨_, rfl⟩
  obtain ⟨s2, hs2⟩ : ∃ s2, helloS s1 1 2 6 = s2 := ⟨_, rfl⟩
  obtain ⟨s3, hs3⟩ : ∃ s3, helloS s2 1 1 7 = s3 := ⟨_, rfl⟩
  have g1 := hs1 ▸ hello_good g0.out 1 1 0
  have g2 := hs2 ▸ hello_good g1 1 2 6
  have g3 := hs3 ▸ hello_good g2 1 1 7
  have a1 : helloE (newS 2 5) 1 1 0 = 1 := by decide
  have a2 : helloN (newS 2 5) 1 1 0 = 0 := by decide
  have b1 : helloE s1 1 2 6 = 2 := by subst hs1; decide
  have b2 : helloN s1 1 2 6 = 0 := by subst hs1; decide
  have c2 : helloN s2 1 1 7 = 4 := by subst hs2 hs1; decide
  have d1 : decide (liveOk s3 1 11) = true := by subst hs3 hs2 hs1; decide
  have d2 : decide (liveOk s3 1 12) = false := by subst hs3 hs2 hs1; decide
  have G1 := Lib.hid g1; have G2 := Lib.hid g2; have G3 := Lib.hid g3
  have A1 := Lib.hid a1; have A2 := Lib.hid a2; have B1 := Lib.hid b1; have B2 := Lib.hid b2; have C2 := Lib.hid c2; have D1 := Lib.hid d1; have D2 := Lib.hid d2
  have S1 := Lib.hid hs1; have S2 := Lib.hid hs2; have S3 := Lib.hid hs3
  have HN := Lib.hid hn
  obtain ⟨x, hx⟩ : ∃ x, helloE s2 1 1 7 = x := ⟨_, rfl⟩
  have C1 := Lib.hid hx
  clear g1 g2 g3 a1 a2 b1 b2 c2 d1 d2 hs1 hs2 hs3 hx hn
  go_enter Try.func9, Try.ntmps9
  go_wp2_with fail
  refine (new_good 2 5 _ HN.out).mono ?_
  rintro e w0 ⟨rfl, hw0⟩
  have T0 := Lib.hid (hw0 ▸ new_is_tab w 2 5 _)
  have L0 := Lib.hid (show Below w.heap.size w w0 from hw0 ▸ below_one w _)
  clear hw0
  go_wp2_with fail
  refine (hello_lit _ 1 1 0 _ T0.out g0.out A1.out A2.out S1.out).mono ?_
  rintro e w1 ⟨rfl, t1, u1⟩
  have T1 := Lib.hid t1
  have L1 := Lib.hid (L0.out.trans (u1.below (Nat.le_refl _) L0.out.size))
  clear t1 u1
  go_wp2_with fail
  refine (hello_lit _ 1 2 6 _ T1.out G1.out B1.out B2.out S2.out).mono ?_
  rintro e w2 ⟨rfl, t1, u1⟩
  have T2 := Lib.hid t1
  have L2 := Lib.hid (L1.out.trans (u1.below (Nat.le_refl _) L1.out.size))
  clear t1 u1
  go_wp2_with fail
  refine (hello_lit _ 1 1 7 _ T2.out G2.out C1.out C2.out S3.out).mono ?_
  rintro e w3 ⟨rfl, t1, u1⟩
  have T3 := Lib.hid t1
  have L3 := Lib.hid (L2.out.trans (u1.below (Nat.le_refl _) L2.out.size))
  clear t1 u1
  go_wp2_with fail
  refine (live_lit _ 1 11 _ T3.out G3.out D1.out).mono ?_
  rintro e w4 ⟨rfl, u1⟩
  have T4 := Lib.hid (T3.out.below u1)
  have L4 := Lib.hid (L3.out.trans (u1.mono L3.out.size))
  clear u1
  go_wp2_with fail
  refine (live_lit _ 1 12 _ T4.out G3.out D2.out).mono ?_
  rintro e w5 ⟨rfl, u1⟩
  have L5 := Lib.hid (L4.out.trans (u1.mono L4.out.size))
  clear u1
  go_wp2_with fail
  go_ret
  exact ⟨rfl, L5.out⟩
theorem seen_nil (k e t : Int) (w : World) :
    Calls Try.prog 13 #[.pointer none, .int .i64 k, .int .i64 e, .int .i64 t] w fun r w' => r = .returned (.bool false) ∧ w = w' := by
  go_enter Try.func13, Try.ntmps13
  go_wp2_with fail
  refine (has_nil k _).mono ?_
  rintro e w' ⟨rfl, rfl⟩
  go_wp2_with fail
  go_ret
  exact ⟨rfl, rfl⟩
theorem live_nil (k t : Int) (w : World) :
    Calls Try.prog 19 #[.pointer none, .int .i64 k, .int .i64 t] w fun r w' => r = .returned (.bool false) ∧ w = w' := by
  go_enter Try.func19, Try.ntmps19
  go_wp2_with fail
  refine (has_nil k _).mono ?_
  rintro e w' ⟨rfl, rfl⟩
  go_wp2_with fail
  go_ret
  exact ⟨rfl, rfl⟩
theorem epoch_nil (k : Int) (w : World) :
    Calls Try.prog 17 #[.pointer none, .int .i64 k] w fun r w' => r = .returned (.int .i64 0) ∧ w = w' := by
  go_enter Try.func17, Try.ntmps17
  go_wp2_with fail
  refine (has_nil k _).mono ?_
  rintro e w' ⟨rfl, rfl⟩
  go_wp2_with fail
  go_ret
  exact ⟨rfl, rfl⟩
theorem life_nil (k : Int) (w : World) :
    Calls Try.prog 18 #[.pointer none, .int .i64 k] w fun r w' => r = .returned (.int .i64 0) ∧ w = w' := by
  go_enter Try.func18, Try.ntmps18
  go_wp2_with fail
  refine (has_nil k _).mono ?_
  rintro e w' ⟨rfl, rfl⟩
  go_wp2_with fail
  go_ret
  exact ⟨rfl, rfl⟩
end Go.Proofs.Ytphcmokcdaiphaa
