/- contracts of band.Within, band.Near, and of awake -/
import Derived.Test.YtmpkmgkafhlpjaaBa2
namespace Go.Proofs.Ytmpkmgkafhlpjaa
open Go.RowKit
set_option linter.unusedVariables false
set_option maxRecDepth 20000
def withinD (D k : Int) : Int := if D ≤ k then D else 0
/-- Within, where the distance is told by a letter -/
def WithinP (a b : Option Addr) (la lb ca cb : Nat) (D : Int) (w : World) : Prop :=
  ∀ k : Int, Calls Try.prog 37 #[.slice a la ca, .slice b lb cb, .int .i64 k] w fun e w' => e = .returned (.tuple #[.int .i64 (withinD D k), .bool (decide (D ≤ k))]) ∧ Below w.heap.size w w'
theorem within_no (ra rb : List Int) (a b : Option Addr) (la lb ca cb : Nat) (k : Int) (w : World) (hla : la ≤ 1048576) (hlb : lb ≤ 1048576) (h : k < 0 ∨ k < (la : Int) - lb ∨ k < (lb : Int) - la) :
    Calls Try.prog 37 #[.slice a la ca, .slice b lb cb, .int .i64 k] w fun e w' => e = .returned (.tuple #[.int .i64 0, .bool false]) ∧ w = w' := by
  have h1 : k < 0 ∨ (0 ≤ k ∧ k < (la : Int) - lb) ∨ (0 ≤ k ∧ (la : Int) - lb ≤ k ∧ k < (lb : Int) - la) := by omega
  have q1 : IntKind.i64.wrap ((la : Int) - lb) = (la : Int) - lb := IntWalk.i64_in _ (by omega)
  have q2 : IntKind.i64.wrap ((lb : Int) - la) = (lb : Int) - la := IntWalk.i64_in _ (by omega)
  clear h
  rcases h1 with h1 | ⟨h0, h1⟩ | ⟨h0, h1, h2⟩
  all_goals
    go_enter Try.func37, Try.ntmps37
    go_wp2_with fail
    go_ret2
    exact ⟨rfl, rfl⟩
set_option maxHeartbeats 1600000 in
theorem within_any (ra rb : List Int) (a b : Option Addr) (la lb ca cb : Nat) (w : World) (ha : HoldsI .i32 w a la ra) (hb : HoldsI .i32 w b lb rb) (hla : la ≤ 1048576) (hlb : lb ≤ 1048576) :
    WithinP a b la lb ca cb (Ed.L ra rb la lb) w := by
  intro k
  have b1 := Ed.L_low ra rb la lb
  have b2 := Ed.L_bd ra rb la lb
  have b3 := Ed.L_up ra rb la lb
  by_cases hno : k < 0 ∨ k < (la : Int) - lb ∨ k < (lb : Int) - la
  · have h1 : ¬ Ed.L ra rb la lb ≤ k := by omega
    unfold withinD
    rw [if_neg h1, decide_eq_false h1]
    exact (within_no ra rb a b la lb ca cb k w hla hlb hno).mono fun e w' h => ⟨h.1, h.2 ▸ Below.refl _ _⟩
  · obtain ⟨n, rfl⟩ : ∃ n : Nat, k = (n : Int) := ⟨k.toNat, by omega⟩
    have h1 : (la : Int) - lb ≤ n := by omega
    have h2 : (lb : Int) - la ≤ n := by omega
    have h0 : (0 : Int) ≤ (n : Int) := by omega
    have q1 : IntKind.i64.wrap ((la : Int) - lb) = (la : Int) - lb := IntWalk.i64_in _ (by omega)
    have q2 : IntKind.i64.wrap ((lb : Int) - la) = (lb : Int) - la := IntWalk.i64_in _ (by omega)
    have hruns := Lib.hid (eruns_lit ra rb la lb a b ca cb w ha.len hb.len ha hb hla hlb)
    have hband := Lib.hid (fun hn => banded_any ra rb a b la lb ca cb n w ha hb hla hlb hn h1 h2)
    obtain ⟨D, hD⟩ : ∃ D, Ed.L ra rb la lb = D := ⟨_, rfl⟩
    simp only [hD] at b1 b2 b3 hruns hband ⊢
    unfold withinD
    have hmx : ((la : Int) < lb ∧ ((max la lb : Nat) : Int) = lb) ∨ ((lb : Int) ≤ la ∧ ((max la lb : Nat) : Int) = la) := by omega
    clear ha hb hD hno b1
    rcases hmx with ⟨hm, hm2⟩ | ⟨hm, hm2⟩
    all_goals
      rw [hm2] at b3
      clear hm2
    · by_cases hbig : (lb : Int) ≤ n
      · have hle : D ≤ (n : Int) := by omega
        rw [if_pos hle, decide_eq_true hle]
        have x1 : ¬ (n : Int) < D := by omega
        go_enter Try.func37, Try.ntmps37
        go_wp2_with fail
        refine hruns.out.mono ?_
        rintro e w' ⟨rfl, hb⟩
        go_wp2_with fail
        go_ret2
        exact ⟨rfl, hb⟩
      · have hb2 := Lib.hid (hband.out (by omega))
        have x3 : (n : Int) < lb := by omega
        clear hband hbig
        by_cases hle : D ≤ (n : Int)
        · rw [if_pos hle, decide_eq_true hle]
          have hv : min D ((n : Int) + 1) = D := by omega
          rw [hv] at hb2
          clear hv
          go_enter Try.func37, Try.ntmps37
          go_wp2_with fail
          refine hb2.out.mono ?_
          rintro e w' ⟨rfl, hb⟩
          go_wp2_with fail
          go_ret2
          exact ⟨rfl, hb⟩
        · rw [if_neg hle, decide_eq_false hle]
          have hv : min D ((n : Int) + 1) = (n : Int) + 1 := by omega
          rw [hv] at hb2
          clear hv
          go_enter Try.func37, Try.ntmps37
          go_wp2_with fail
          refine hb2.out.mono ?_
          rintro e w' ⟨rfl, hb⟩
          go_wp2_with fail
          go_ret2
          exact ⟨rfl, hb⟩
    · by_cases hbig : (la : Int) ≤ n
      · have hle : D ≤ (n : Int) := by omega
        rw [if_pos hle, decide_eq_true hle]
        have x1 : ¬ (n : Int) < D := by omega
        go_enter Try.func37, Try.ntmps37
        go_wp2_with fail
        refine hruns.out.mono ?_
        rintro e w' ⟨rfl, hb⟩
        go_wp2_with fail
        go_ret2
        exact ⟨rfl, hb⟩
      · have hb2 := Lib.hid (hband.out (by omega))
        have x3 : (n : Int) < la := by omega
        clear hband hbig
        by_cases hle : D ≤ (n : Int)
        · rw [if_pos hle, decide_eq_true hle]
          have hv : min D ((n : Int) + 1) = D := by omega
          rw [hv] at hb2
          clear hv
          go_enter Try.func37, Try.ntmps37
          go_wp2_with fail
          refine hb2.out.mono ?_
          rintro e w' ⟨rfl, hb⟩
          go_wp2_with fail
          go_ret2
          exact ⟨rfl, hb⟩
        · rw [if_neg hle, decide_eq_false hle]
          have hv : min D ((n : Int) + 1) = (n : Int) + 1 := by omega
          rw [hv] at hb2
          clear hv
          go_enter Try.func37, Try.ntmps37
          go_wp2_with fail
          refine hb2.out.mono ?_
          rintro e w' ⟨rfl, hb⟩
          go_wp2_with fail
          go_ret2
          exact ⟨rfl, hb⟩
def nearOk (a b : ByteArray) (k : Int) : Bool := decide (0 ≤ distS a b ∧ distS a b ≤ k)
def nearD (a b : ByteArray) (k : Int) : Int := if 0 ≤ distS a b ∧ distS a b ≤ k then distS a b else 0
set_option maxHeartbeats 1600000 in
theorem near_any (a b : ByteArray) (k : Int) (w : World) (hsa : a.size ≤ 1048576) (hsb : b.size ≤ 1048576) :
    Calls Try.prog 29 #[.string a, .string b, .int .i64 k] w fun e w' => e = .returned (.tuple #[.int .i64 (nearD a b k), .bool (nearOk a b k)]) ∧ Below w.heap.size w w' := by
  unfold nearOk nearD
  by_cases hga : 0 ≤ lenS a
  · have hA := Lib.hid (runes_good a w hsa hga)
    by_cases hgb : 0 ≤ lenS b
    · have hBr := Lib.hid (fun w => runes_good b w hsb hgb)
      have hd : distS a b = Ed.L (intsN (runesS a)) (intsN (runesS b)) (runesS a).length (runesS b).length := by unfold distS; rw [if_pos ⟨hga, hgb⟩]
      have hbd := Ed.L_bd (intsN (runesS a)) (intsN (runesS b)) (runesS a).length (runesS b).length
      have hle := runesS_le a
      have hleb := runesS_le b
      have hl1 := intsN_length (runesS a)
      have hl2 := intsN_length (runesS b)
      have h0 : (0 ≤ distS a b ∧ distS a b ≤ k) ↔ distS a b ≤ k := ⟨fun h => h.2, fun h => ⟨by omega, h⟩⟩
      have e1 : (if 0 ≤ distS a b ∧ distS a b ≤ k then distS a b else 0) = withinD (distS a b) k := by
        unfold withinD
        by_cases hk : distS a b ≤ k
        · rw [if_pos hk, if_pos (h0.2 hk)]
        · rw [if_neg hk, if_neg (fun h => hk h.2)]
      have e2 : decide (0 ≤ distS a b ∧ distS a b ≤ k) = decide (distS a b ≤ k) := decide_eq_decide.2 h0
      rw [e1, e2]
      rw [hd]
      clear e1 e2
      have HLE := Lib.hid hle; have HLEB := Lib.hid hleb; have HL1 := Lib.hid hl1; have HL2 := Lib.hid hl2
      clear hd hbd h0 hle hleb hl1 hl2 hga hgb
      go_enter Try.func29, Try.ntmps29
      go_wp2_with fail
      refine hA.out.mono ?_
      rintro e w1 ⟨a1, c1, rfl, hr1⟩
      have R1 := Lib.hid hr1
      clear hr1
      go_wp2_with fail
      refine (hBr.out _).mono ?_
      rintro e w2 ⟨a2, c2, rfl, hr2⟩
      have R2 := Lib.hid hr2
      clear hr2
      go_wp2_with fail
      have B2 : Below w.heap.size w w2 := R1.out.2.1.trans (R2.out.2.1.mono R1.out.2.1.size)
      have h1 := R1.out.holds.below R2.out.2.1
      have h2 := R2.out.holds
      rw [HL1.out] at h1; rw [HL2.out] at h2
      have hw := within_any (intsN (runesS a)) (intsN (runesS b)) a1 a2 (runesS a).length (runesS b).length c1 c2 w2 h1 h2 (by have := HLE.out; omega) (by have := HLEB.out; omega) k
      refine hw.mono ?_
      rintro e w3 ⟨rfl, hb3⟩
      have B3 := Lib.hid (B2.trans (hb3.mono B2.size))
      clear hb3 hw h1 h2 B2
      go_wp2_with fail
      go_ret2
      exact ⟨rfl, B3.out⟩
    · have hBr := Lib.hid (fun w => runes_bad b w hsb (by omega))
      have hd : distS a b = -1 := by unfold distS; rw [if_neg (fun h => hgb h.2)]
      rw [hd]
      have hn : ¬ ((0 : Int) ≤ -1 ∧ (-1 : Int) ≤ k) := by omega
      rw [if_neg hn, decide_eq_false hn]
      clear hn hd hga hgb
      go_enter Try.func29, Try.ntmps29
      go_wp2_with fail
      refine hA.out.mono ?_
      rintro e w1 ⟨a1, c1, rfl, hr1⟩
      have R1 := Lib.hid hr1
      clear hr1
      go_wp2_with fail
      refine (hBr.out _).mono ?_
      rintro e w2 ⟨rfl, hb2⟩
      have B2 := Lib.hid (R1.out.2.1.trans (hb2.mono R1.out.2.1.size))
      clear hb2
      go_wp2_with fail
      go_ret2
      exact ⟨rfl, B2.out⟩
  · have hA := Lib.hid (runes_bad a w hsa (by omega))
    have hd : distS a b = -1 := by unfold distS; rw [if_neg (fun h => hga h.1)]
    rw [hd]
    have hn : ¬ ((0 : Int) ≤ -1 ∧ (-1 : Int) ≤ k) := by omega
    rw [if_neg hn, decide_eq_false hn]
    clear hn hd hga
    by_cases hgb : 0 ≤ lenS b
    · have hBr := Lib.hid (fun w => runes_good b w hsb hgb)
      clear hgb
      go_enter Try.func29, Try.ntmps29
      go_wp2_with fail
      refine hA.out.mono ?_
      rintro e w1 ⟨rfl, hb1⟩
      have R1 := Lib.hid hb1
      clear hb1
      go_wp2_with fail
      refine (hBr.out _).mono ?_
      rintro e w2 ⟨a2, c2, rfl, hr2⟩
      have B2 := Lib.hid (R1.out.trans (hr2.2.1.mono R1.out.size))
      clear hr2
      go_wp2_with fail
      go_ret2
      exact ⟨rfl, B2.out⟩
    · have hBr := Lib.hid (fun w => runes_bad b w hsb (by omega))
      clear hgb
      go_enter Try.func29, Try.ntmps29
      go_wp2_with fail
      refine hA.out.mono ?_
      rintro e w1 ⟨rfl, hb1⟩
      have R1 := Lib.hid hb1
      clear hb1
      go_wp2_with fail
      refine (hBr.out _).mono ?_
      rintro e w2 ⟨rfl, hb2⟩
      have B2 := Lib.hid (R1.out.trans (hb2.mono R1.out.size))
      clear hb2
      go_wp2_with fail
      go_ret2
      exact ⟨rfl, B2.out⟩
end Go.Proofs.Ytmpkmgkafhlpjaa
