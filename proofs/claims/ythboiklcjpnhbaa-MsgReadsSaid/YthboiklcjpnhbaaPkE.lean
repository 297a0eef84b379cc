/- texts joined -/
import Derived.Test.YthboiklcjpnhbaaPkC
import Derived.Test.YthboiklcjpnhbaaPkA
import Derived.Deep.QuietTactic
import Derived.BigQuiet
import Derived.Deep.DeepCutAuto
import Derived.Deep.RegionHeld3
import Derived.Test.YthboiklcjpnhbaaPkB
import Derived.Laws.CopyOwn
/- contract of the document's 'one'; it is the runes that a range yields -/
namespace Go.Proofs.Ythboiklcjpnhbaa
open Go.RowKit
set_option linter.unusedVariables false
set_option maxRecDepth 20000
def oneV (s : ByteArray) (i : Nat) : Int × Int :=
  if byteS s i < 128 then ((byteS s i : Int), 1)
  else if (194 ≤ byteS s i ∧ byteS s i ≤ 223) ∧ moreP s (i + 1) then (((byteS s i : Int) - 192) * 64 + moreV s (i + 1), 2)
  else if (224 ≤ byteS s i ∧ byteS s i ≤ 239) ∧ moreP s (i + 1) ∧ moreP s (i + 2) then (((byteS s i : Int) - 224) * 4096 + moreV s (i + 1) * 64 + moreV s (i + 2), 3)
  else if (240 ≤ byteS s i ∧ byteS s i ≤ 244) ∧ moreP s (i + 1) ∧ moreP s (i + 2) ∧ moreP s (i + 3) then (((byteS s i : Int) - 240) * 262144 + moreV s (i + 1) * 4096 + moreV s (i + 2) * 64 + moreV s (i + 3), 4)
  else (0, 0)
theorem moreV_bd (s : ByteArray) (i : Nat) : 0 ≤ moreV s i ∧ moreV s i ≤ 63 := by
  unfold moreV
  split
  · rename_i h; unfold moreP at h; omega
  · omega
theorem more_lit (s : ByteArray) (i : Nat) (k : Int) (w : World) (hs : s.size ≤ 1048576) (hi : i ≤ 1048580) (p : Bool) (v : Int) (hk : (i : Int) = k) (hp : decide (moreP s i) = p) (hv : moreV s i = v) :
    Calls Try.prog 112 #[.string s, .int .i64 k] w fun e w' => e = .returned (.tuple #[.int .i32 v, .bool p]) ∧ w = w' := by
  subst hp hv hk; exact more_any s i w hs hi
def badP (r n : Int) : Prop := n = 0 ∨ ¬ goodP r ∨ (n = 3 ∧ r < 2048) ∨ (n = 4 ∧ r < 65536)
instance (r n : Int) : Decidable (badP r n) := by unfold badP; infer_instance
set_option maxHeartbeats 1600000 in
theorem one_decode (s : ByteArray) (i : Nat) (hi : i < s.size) :
    (badP (oneV s i).1 (oneV s i).2 → (Utf8.decode s i).1 = 65533) ∧
    (¬ badP (oneV s i).1 (oneV s i).2 → (oneV s i).1 = ((Utf8.decode s i).1 : Int) ∧ (oneV s i).2 = ((Utf8.decode s i).2 : Int) ∧ (Utf8.decode s i).1 ≠ 65533) := by
  rw [Lib.decode_at]
  have e1 : moreP s (i + 1) ↔ (1 < s.size - i ∧ 128 ≤ byteS s (i + 1) ∧ byteS s (i + 1) ≤ 191) := by unfold moreP; omega
  have e2 : moreP s (i + 2) ↔ (2 < s.size - i ∧ 128 ≤ byteS s (i + 2) ∧ byteS s (i + 2) ≤ 191) := by unfold moreP; omega
  have e3 : moreP s (i + 3) ↔ (3 < s.size - i ∧ 128 ≤ byteS s (i + 3) ∧ byteS s (i + 3) ≤ 191) := by unfold moreP; omega
  have l0 := byteS_lt s i
  have l1 := byteS_lt s (i + 1)
  have l2 := byteS_lt s (i + 2)
  have l3 := byteS_lt s (i + 3)
  unfold oneV moreV
  simp only [e1, e2, e3]
  show (_ → (Lib.decodeN (s.size - i) (byteS s i) (byteS s (i + 1)) (byteS s (i + 2)) (byteS s (i + 3))).1 = 65533) ∧ (_ → _ = ((Lib.decodeN (s.size - i) (byteS s i) (byteS s (i + 1)) (byteS s (i + 2)) (byteS s (i + 3))).1 : Int) ∧ _ = ((Lib.decodeN (s.size - i) (byteS s i) (byteS s (i + 1)) (byteS s (i + 2)) (byteS s (i + 3))).2 : Int) ∧ (Lib.decodeN (s.size - i) (byteS s i) (byteS s (i + 1)) (byteS s (i + 2)) (byteS s (i + 3))).1 ≠ 65533)
  have hn : 0 < s.size - i := by omega
  clear e1 e2 e3
  generalize s.size - i = n at *
  generalize byteS s i = b0 at *
  generalize byteS s (i + 1) = b1 at *
  generalize byteS s (i + 2) = b2 at *
  generalize byteS s (i + 3) = b3 at *
  unfold Lib.decodeN badP goodP
  by_cases h0 : b0 < 128
  · simp only [h0, if_true]
    refine ⟨fun h => ?_, fun h => ⟨?_, ?_, ?_⟩⟩ <;> first | trivial | omega
  simp only [h0, if_false]
  by_cases hA : (194 ≤ b0 ∧ b0 ≤ 223) ∧ 1 < n ∧ 128 ≤ b1 ∧ b1 ≤ 191
  · obtain ⟨⟨a1, a2⟩, a3, a4, a5⟩ := hA
    have c1 : b0 / 32 = 6 ∧ 1 < n ∧ b1 / 64 = 2 := by omega
    have c2 : b0 % 32 * 64 + b1 % 64 ≥ 128 := by omega
    rw [if_pos ⟨⟨a1, a2⟩, a3, a4, a5⟩, if_pos c1, if_pos c2, if_pos ⟨a3, a4, a5⟩]
    dsimp only
    refine ⟨fun h => ?_, fun h => ⟨?_, ?_, ?_⟩⟩ <;> omega
  rw [if_neg hA]
  by_cases hB : (224 ≤ b0 ∧ b0 ≤ 239) ∧ (1 < n ∧ 128 ≤ b1 ∧ b1 ≤ 191) ∧ 2 < n ∧ 128 ≤ b2 ∧ b2 ≤ 191
  · obtain ⟨⟨a1, a2⟩, ⟨a3, a4, a5⟩, a6, a7, a8⟩ := hB
    have c0 : ¬ (b0 / 32 = 6 ∧ 1 < n ∧ b1 / 64 = 2) := by omega
    have c1 : b0 / 16 = 14 ∧ (1 < n ∧ b1 / 64 = 2) ∧ 2 < n ∧ b2 / 64 = 2 := by omega
    rw [if_pos ⟨⟨a1, a2⟩, ⟨a3, a4, a5⟩, a6, a7, a8⟩, if_neg c0, if_pos c1, if_pos ⟨a3, a4, a5⟩, if_pos ⟨a6, a7, a8⟩]
    clear c0 c1 hA
    split
    all_goals
      dsimp only
      refine ⟨fun h => ?_, fun h => ⟨?_, ?_, ?_⟩⟩ <;> omega
  rw [if_neg hB]
  by_cases hC : (240 ≤ b0 ∧ b0 ≤ 244) ∧ (1 < n ∧ 128 ≤ b1 ∧ b1 ≤ 191) ∧ (2 < n ∧ 128 ≤ b2 ∧ b2 ≤ 191) ∧ 3 < n ∧ 128 ≤ b3 ∧ b3 ≤ 191
  · obtain ⟨⟨a1, a2⟩, ⟨a3, a4, a5⟩, ⟨a6, a7, a8⟩, a9, a10, a11⟩ := hC
    have c0 : ¬ (b0 / 32 = 6 ∧ 1 < n ∧ b1 / 64 = 2) := by omega
    have c1 : ¬ (b0 / 16 = 14 ∧ (1 < n ∧ b1 / 64 = 2) ∧ 2 < n ∧ b2 / 64 = 2) := by omega
    have c2 : b0 / 8 = 30 ∧ (1 < n ∧ b1 / 64 = 2) ∧ (2 < n ∧ b2 / 64 = 2) ∧ 3 < n ∧ b3 / 64 = 2 := by omega
    rw [if_pos ⟨⟨a1, a2⟩, ⟨a3, a4, a5⟩, ⟨a6, a7, a8⟩, a9, a10, a11⟩, if_neg c0, if_neg c1, if_pos c2, if_pos ⟨a3, a4, a5⟩, if_pos ⟨a6, a7, a8⟩, if_pos ⟨a9, a10, a11⟩]
    clear c0 c1 c2 hA hB
    split
    all_goals
      dsimp only
      refine ⟨fun h => ?_, fun h => ⟨?_, ?_, ?_⟩⟩ <;> omega
  rw [if_neg hC]
  refine ⟨fun _ => ?_, fun h => absurd (Or.inl rfl) h⟩
  by_cases d1 : b0 / 32 = 6 ∧ 1 < n ∧ b1 / 64 = 2
  · rw [if_pos d1, if_neg (by omega)]
  rw [if_neg d1]
  by_cases d2 : b0 / 16 = 14 ∧ (1 < n ∧ b1 / 64 = 2) ∧ 2 < n ∧ b2 / 64 = 2
  · omega
  rw [if_neg d2]
  by_cases d3 : b0 / 8 = 30 ∧ (1 < n ∧ b1 / 64 = 2) ∧ (2 < n ∧ b2 / 64 = 2) ∧ 3 < n ∧ b3 / 64 = 2
  · rw [if_pos d3, if_neg (by omega)]
  rw [if_neg d3]
end Go.Proofs.Ythboiklcjpnhbaa
/- contracts of the document's 'one' and Runes -/
namespace Go.Proofs.Ythboiklcjpnhbaa
open Go.RowKit
set_option linter.unusedVariables false
set_option maxRecDepth 20000
set_option maxRecDepth 100000 in
set_option maxHeartbeats 6400000 in
theorem one_any (s : ByteArray) (i : Nat) (w : World) (hs : s.size ≤ 1048576) (hi : i < s.size) :
    Calls Try.prog 108 #[.string s, .int .i64 i] w fun e w' => e = .returned (.tuple #[.int .i32 (oneV s i).1, .int .i64 (oneV s i).2]) ∧ w = w' := by
  have hx := byteS_at s i hi
  have hb := byteS_lt s i
  obtain ⟨p1, hp1⟩ : ∃ p, decide (moreP s (i + 1)) = p := ⟨_, rfl⟩
  obtain ⟨p2, hp2⟩ : ∃ p, decide (moreP s (i + 2)) = p := ⟨_, rfl⟩
  obtain ⟨p3, hp3⟩ : ∃ p, decide (moreP s (i + 3)) = p := ⟨_, rfl⟩
  have i1 : moreP s (i + 1) ↔ p1 = true := by rw [← hp1]; simp
  have i2 : moreP s (i + 2) ↔ p2 = true := by rw [← hp2]; simp
  have i3 : moreP s (i + 3) ↔ p3 = true := by rw [← hp3]; simp
  obtain ⟨A, hA⟩ : ∃ A, moreV s (i + 1) = A := ⟨_, rfl⟩
  obtain ⟨B, hB⟩ : ∃ A, moreV s (i + 2) = A := ⟨_, rfl⟩
  obtain ⟨C, hC⟩ : ∃ A, moreV s (i + 3) = A := ⟨_, rfl⟩
  have m1 := Lib.hid (more_lit s (i + 1) ((i : Int) + 1) w hs (by omega) p1 A (by omega) hp1 hA)
  have m2 := Lib.hid (more_lit s (i + 2) ((i : Int) + 2) w hs (by omega) p2 B (by omega) hp2 hB)
  have m3 := Lib.hid (more_lit s (i + 3) ((i : Int) + 3) w hs (by omega) p3 C (by omega) hp3 hC)
  have bA := moreV_bd s (i + 1); have bB := moreV_bd s (i + 2); have bC := moreV_bd s (i + 3)
  rw [hA] at bA; rw [hB] at bB; rw [hC] at bC
  unfold oneV
  simp only [i1, i2, i3]
  rw [hA, hB, hC]
  obtain ⟨x, hx2⟩ : ∃ x, byteS s i = x := ⟨_, rfl⟩
  rw [hx2] at hx hb
  rw [hx2]
  have j1 : IntKind.i64.wrap ((i : Int) + 1) = (i : Int) + 1 := IntWalk.i64_in _ (by omega)
  have j2 : IntKind.i64.wrap ((i : Int) + 2) = (i : Int) + 2 := IntWalk.i64_in _ (by omega)
  have j3 : IntKind.i64.wrap ((i : Int) + 3) = (i : Int) + 3 := IntWalk.i64_in _ (by omega)
  clear hx2 hA hB hC hp1 hp2 hp3 i1 i2 i3
  have hcase : x < 128 ∨ (128 ≤ x ∧ x < 194) ∨ (128 ≤ x ∧ 194 ≤ x ∧ x ≤ 223) ∨ (128 ≤ x ∧ 194 ≤ x ∧ 223 < x ∧ 224 ≤ x ∧ x ≤ 239) ∨ (128 ≤ x ∧ 194 ≤ x ∧ 223 < x ∧ 224 ≤ x ∧ 239 < x ∧ 240 ≤ x ∧ x ≤ 244) ∨ (128 ≤ x ∧ 194 ≤ x ∧ 223 < x ∧ 224 ≤ x ∧ 239 < x ∧ 240 ≤ x ∧ 244 < x) := by omega
  rcases hcase with c1 | ⟨c0, c1⟩ | ⟨c0, c1, c2⟩ | ⟨c0, c1, c2, c3, c4⟩ | ⟨c0, c1, c2, c3, c4, c5, c6⟩ | ⟨c0, c1, c2, c3, c4, c5, c6⟩
  · rw [if_pos c1]
    go_enter Try.func108, Try.ntmps108
    go_wp2_with fail
    refine m1.out.mono ?_
    rintro e w' ⟨rfl, rfl⟩
    go_wp2_with fail
    refine m2.out.mono ?_
    rintro e w' ⟨rfl, rfl⟩
    go_wp2_with fail
    refine m3.out.mono ?_
    rintro e w' ⟨rfl, rfl⟩
    go_wp2_with fail
    go_ret2
    exact ⟨rfl, rfl⟩
  · rw [if_neg (by omega), if_neg (by omega), if_neg (by omega), if_neg (by omega)]
    go_enter Try.func108, Try.ntmps108
    go_wp2_with fail
    refine m1.out.mono ?_
    rintro e w' ⟨rfl, rfl⟩
    go_wp2_with fail
    refine m2.out.mono ?_
    rintro e w' ⟨rfl, rfl⟩
    go_wp2_with fail
    refine m3.out.mono ?_
    rintro e w' ⟨rfl, rfl⟩
    go_wp2_with fail
    go_ret2
    exact ⟨rfl, rfl⟩
  · rw [if_neg (by omega)]
    cases p1
    · rw [if_neg (by simp), if_neg (by omega), if_neg (by omega)]
      go_enter Try.func108, Try.ntmps108
      go_wp2_with fail
      refine m1.out.mono ?_
      rintro e w' ⟨rfl, rfl⟩
      go_wp2_with fail
      refine m2.out.mono ?_
      rintro e w' ⟨rfl, rfl⟩
      go_wp2_with fail
      refine m3.out.mono ?_
      rintro e w' ⟨rfl, rfl⟩
      go_wp2_with fail
      go_ret2
      exact ⟨rfl, rfl⟩
    · rw [if_pos ⟨⟨c1, c2⟩, rfl⟩]
      go_enter Try.func108, Try.ntmps108
      go_wp2_with fail
      refine m1.out.mono ?_
      rintro e w' ⟨rfl, rfl⟩
      go_wp2_with fail
      refine m2.out.mono ?_
      rintro e w' ⟨rfl, rfl⟩
      go_wp2_with fail
      refine m3.out.mono ?_
      rintro e w' ⟨rfl, rfl⟩
      go_wp2_with fail
      go_ret2
      exact ⟨rfl, rfl⟩
  · rw [if_neg (by omega), if_neg (by omega)]
    by_cases hp : p1 = true ∧ p2 = true
    · obtain ⟨rfl, rfl⟩ := hp
      rw [if_pos ⟨⟨c3, c4⟩, rfl, rfl⟩]
      go_enter Try.func108, Try.ntmps108
      go_wp2_with fail
      refine m1.out.mono ?_
      rintro e w' ⟨rfl, rfl⟩
      go_wp2_with fail
      refine m2.out.mono ?_
      rintro e w' ⟨rfl, rfl⟩
      go_wp2_with fail
      refine m3.out.mono ?_
      rintro e w' ⟨rfl, rfl⟩
      go_wp2_with fail
      go_ret2
      exact ⟨rfl, rfl⟩
    · rw [if_neg (fun h => hp h.2), if_neg (by omega)]
      cases p1 <;> cases p2 <;> simp at hp
      all_goals
        clear hp
        go_enter Try.func108, Try.ntmps108
        go_wp2_with fail
        refine m1.out.mono ?_
        rintro e w' ⟨rfl, rfl⟩
        go_wp2_with fail
        refine m2.out.mono ?_
        rintro e w' ⟨rfl, rfl⟩
        go_wp2_with fail
        refine m3.out.mono ?_
        rintro e w' ⟨rfl, rfl⟩
        go_wp2_with fail
        go_ret2
        exact ⟨rfl, rfl⟩
  · rw [if_neg (by omega), if_neg (by omega), if_neg (by omega)]
    by_cases hp : p1 = true ∧ p2 = true ∧ p3 = true
    · obtain ⟨rfl, rfl, rfl⟩ := hp
      rw [if_pos ⟨⟨c5, c6⟩, rfl, rfl, rfl⟩]
      go_enter Try.func108, Try.ntmps108
      go_wp2_with fail
      refine m1.out.mono ?_
      rintro e w' ⟨rfl, rfl⟩
      go_wp2_with fail
      refine m2.out.mono ?_
      rintro e w' ⟨rfl, rfl⟩
      go_wp2_with fail
      refine m3.out.mono ?_
      rintro e w' ⟨rfl, rfl⟩
      go_wp2_with fail
      go_ret2
      exact ⟨rfl, rfl⟩
    · rw [if_neg (fun h => hp h.2)]
      cases p1 <;> cases p2 <;> cases p3 <;> simp at hp
      all_goals
        clear hp
        go_enter Try.func108, Try.ntmps108
        go_wp2_with fail
        refine m1.out.mono ?_
        rintro e w' ⟨rfl, rfl⟩
        go_wp2_with fail
        refine m2.out.mono ?_
        rintro e w' ⟨rfl, rfl⟩
        go_wp2_with fail
        refine m3.out.mono ?_
        rintro e w' ⟨rfl, rfl⟩
        go_wp2_with fail
        go_ret2
        exact ⟨rfl, rfl⟩
  · rw [if_neg (by omega), if_neg (by omega), if_neg (by omega), if_neg (by omega)]
    go_enter Try.func108, Try.ntmps108
    go_wp2_with fail
    refine m1.out.mono ?_
    rintro e w' ⟨rfl, rfl⟩
    go_wp2_with fail
    refine m2.out.mono ?_
    rintro e w' ⟨rfl, rfl⟩
    go_wp2_with fail
    refine m3.out.mono ?_
    rintro e w' ⟨rfl, rfl⟩
    go_wp2_with fail
    go_ret2
    exact ⟨rfl, rfl⟩
end Go.Proofs.Ythboiklcjpnhbaa
/- contract of the document's Runes of a text -/
namespace Go.Proofs.Ythboiklcjpnhbaa
open Go.RowKit
set_option linter.unusedVariables false
set_option maxRecDepth 20000
def RunesP (s : ByteArray) (w : World) (e : Ending) (w' : World) : Prop :=
  (0 ≤ lenS s ∧ ∃ a c, e = .returned (.tuple #[.slice a (runesS s).length c, .bool true]) ∧ HoldsI .i32 w' a (runesS s).length (intsN (runesS s)) ∧ (a = none → (runesS s).length = 0 ∧ c = 0) ∧ Below w.heap.size w w') ∨
  (lenS s < 0 ∧ e = .returned (.tuple #[.slice none 0 0, .bool false]) ∧ Below w.heap.size w w')
/-- the same, told by its memory -/
def RunesQ (s : ByteArray) (w : World) (e : Ending) (w' : World) : Prop :=
  (0 ≤ lenS s ∧ ∃ a c, e = .returned (.tuple #[.slice a (runesS s).length c, .bool true]) ∧ w'.ownsRow w.heap.size 21 1 (.slice a (runesS s).length c) (runesS s).length (runesV (intsN (runesS s))) ∧ Below w.heap.size w w') ∨
  (lenS s < 0 ∧ e = .returned (.tuple #[.slice none 0 0, .bool false]) ∧ Below w.heap.size w w')
theorem intsN_len (P : List Nat) : (intsN P).length = P.length := by simp [intsN]
theorem one_size (s : ByteArray) (i : Nat) : 0 ≤ (oneV s i).2 ∧ (oneV s i).2 ≤ 4 := by unfold oneV; split <;> (try split) <;> (try split) <;> (try split) <;> simp
theorem runesS_bad {s : ByteArray} {P : List Nat} {pos f : Nat} (hP : runesS s = P ++ runesN s f pos) (hlt : pos < s.size) (hf : s.size ≤ pos + f) (h : (Utf8.decode s pos).1 = 65533) : lenS s < 0 := by
  obtain ⟨g, rfl, hst, _⟩ := runesN_step s f pos hlt hf
  rw [hst, h] at hP
  rw [lenS_bad hP]; omega
set_option maxRecDepth 100000 in
set_option maxHeartbeats 6400000 in
theorem r1runesq_any (s : ByteArray) (w : World) (hs : s.size ≤ 1048576) :
    Calls Try.prog 102 #[.string s] w (RunesQ s w) := by
  obtain ⟨i0, hi, hz0, hz1, hz2⟩ := info_parts i32_info
  go_enter Try.func102, Try.ntmps102
  go_wp2_with fail
  go_loopw [4, 5] (fun lv iv wr => ∃ (pos f : Nat) (P : List Nat), s.size ≤ pos + f ∧ iv = .int .i64 pos ∧ pos ≤ s.size + 4 ∧ Hid (runesS s = P ++ runesN s f pos) ∧ Hid (∀ r ∈ P, r ≠ 65533) ∧ Hid (wr.ownsRow w.heap.size 21 1 lv P.length (runesV (intsN P))) ∧ Hid (Below w.heap.size w wr)) (fun _ iv _ => s.size - (intOf iv).toNat)
  case atStart => exact ⟨0, s.size, [], by omega, rfl, by omega, Lib.hid rfl, Lib.hid (by simp), Lib.hid (World.ownsRow_nil _ _ _ _), Lib.hid (Below.refl _ _)⟩
  case round =>
    obtain ⟨pos, f, P, hf, rfl, hpos, hP, hG, hO, hB⟩ := hrel
    by_cases hlt : pos < s.size
    · obtain ⟨d1, d2⟩ := one_decode s pos hlt
      have hbn := one_size s pos
      have hone := Lib.hid (one_any s pos wr hs hlt)
      obtain ⟨R, hR⟩ : ∃ R, (oneV s pos).1 = R := ⟨_, rfl⟩
      obtain ⟨N, hN⟩ : ∃ R, (oneV s pos).2 = R := ⟨_, rfl⟩
      rw [hR, hN] at d1 d2 hone
      rw [hN] at hbn
      clear hR hN
      have BAD := Lib.hid (fun h => runesS_bad hP.out hlt hf (d1 h))
      have GOOD := Lib.hid d2
      clear d1 d2
      have hgd := Lib.hid (good_any R wr)
      by_cases n0 : N = 0
      · have hneg := Lib.hid (BAD.out (Or.inl n0))
        have y1 : (N == 0) = true := by simp [n0]
        clear n0 hgd GOOD BAD
        go_wp2_with fail
        refine hone.out.mono ?_
        rintro e w' ⟨rfl, rfl⟩
        go_wp2_with fail
        go_ret2
        exact Or.inr ⟨hneg.out, rfl, hB.out⟩
      have y1 : (N == 0) = false := by simpa using n0
      by_cases gd : goodP R
      case neg =>
        have hneg := Lib.hid (BAD.out (Or.inr (Or.inl gd)))
        rw [decide_eq_false gd] at hgd
        clear gd GOOD BAD
        go_wp2_with fail
        refine hone.out.mono ?_
        rintro e w' ⟨rfl, rfl⟩
        go_wp2_with fail
        refine hgd.out.mono ?_
        rintro e w' ⟨rfl, rfl⟩
        go_wp2_with fail
        go_ret2
        exact Or.inr ⟨hneg.out, rfl, hB.out⟩
      rw [decide_eq_true gd] at hgd
      by_cases c3 : N = 3 ∧ R < 2048
      · have hneg := Lib.hid (BAD.out (Or.inr (Or.inr (Or.inl c3))))
        obtain ⟨c3, c4⟩ := c3
        subst c3
        clear gd GOOD BAD
        go_wp2_with fail
        refine hone.out.mono ?_
        rintro e w' ⟨rfl, rfl⟩
        go_wp2_with fail
        refine hgd.out.mono ?_
        rintro e w' ⟨rfl, rfl⟩
        go_wp2_with fail
        go_ret2
        exact Or.inr ⟨hneg.out, rfl, hB.out⟩
      by_cases c5 : N = 4 ∧ R < 65536
      · have hneg := Lib.hid (BAD.out (Or.inr (Or.inr (Or.inr c5))))
        obtain ⟨c5, c6⟩ := c5
        subst c5
        clear gd GOOD BAD
        go_wp2_with fail
        refine hone.out.mono ?_
        rintro e w' ⟨rfl, rfl⟩
        go_wp2_with fail
        refine hgd.out.mono ?_
        rintro e w' ⟨rfl, rfl⟩
        go_wp2_with fail
        go_ret2
        exact Or.inr ⟨hneg.out, rfl, hB.out⟩
      have hok := GOOD.out (fun h => by rcases h with h | h | h | h; exact n0 h; exact h gd; exact c3 h; exact c5 h)
      obtain ⟨g, rfl, hst, hg⟩ := runesN_step s f pos hlt hf
      have hwd := decode_width s pos hlt
      obtain ⟨r, hr⟩ : ∃ r, (Utf8.decode s pos).1 = r := ⟨_, rfl⟩
      obtain ⟨wd, hwd2⟩ : ∃ wd, (Utf8.decode s pos).2 = wd := ⟨_, rfl⟩
      rw [hr, hwd2] at hok hst; rw [hwd2] at hg hwd
      obtain ⟨hRr, rfl, hne⟩ := hok
      have HRr := Lib.hid hRr
      have hlen : P.length < s.size := by
        have h1 := congrArg List.length hP.out
        rw [hst, List.length_append, List.length_cons] at h1
        have := runesS_le s
        omega
      have HST := Lib.hid hst; have NE := Lib.hid hne
      have hN : wd = 1 ∨ wd = 2 ∨ wd = 3 ∨ wd = 4 := by omega
      have c3' : wd = 3 → (2048 : Int) ≤ R := by omega
      have c5' : wd = 4 → (65536 : Int) ≤ R := by omega
      clear hst hr hwd2 hne hRr GOOD BAD gd n0 c3 c5 y1
      rcases hN with hN | hN | hN | hN
      · clear c3' c5'
        subst hN
        go_wp2_with fail
        refine hone.out.mono ?_
        rintro e w' ⟨rfl, rfl⟩
        go_wp2_with fail
        refine hgd.out.mono ?_
        rintro e w' ⟨rfl, rfl⟩
        go_wp2_with (at_builtin; refine wpList_append_any rfl (.tmp 41) (.tmp 43) 128 rfl w.heap.size 21 i0 (.int .i32 0) 1 4 Try.underlying128 hi hz0 hz1 hz2 rfl (by decide) _ P.length _ rfl (hO.out.alloc _) _ 1 1 _ rfl (some_none _) rfl (one_new _ _ _ _) (one_int _ _) (by unfold maxLen; omega) (by omega) (by have := hB.out.size; simp; omega) ?_; intro a3 c3 w3 hown3 hb3 hnil3)
        rw [HRr.out, ← runesV_snoc] at hown3
        have O3 := Lib.hid hown3
        have B3 := Lib.hid ((hB.out.alloc hB.out.size _).trans hb3)
        clear hown3 hb3 hnil3 hO hB
        go_roundw
        case rel => exact ⟨pos + _, g, P ++ [r], hg, by go_num, by omega, Lib.hid (by rw [hP.out, HST.out]; simp), Lib.hid (by intro x hx; rcases List.mem_append.1 hx with hx | hx; exact hG.out x hx; simp at hx; rw [hx]; exact NE.out), by rw [List.length_append]; exact O3, B3⟩
        case measure => simp [intOf]; omega
      · clear c3' c5'
        subst hN
        go_wp2_with fail
        refine hone.out.mono ?_
        rintro e w' ⟨rfl, rfl⟩
        go_wp2_with fail
        refine hgd.out.mono ?_
        rintro e w' ⟨rfl, rfl⟩
        go_wp2_with (at_builtin; refine wpList_append_any rfl (.tmp 41) (.tmp 43) 128 rfl w.heap.size 21 i0 (.int .i32 0) 1 4 Try.underlying128 hi hz0 hz1 hz2 rfl (by decide) _ P.length _ rfl (hO.out.alloc _) _ 1 1 _ rfl (some_none _) rfl (one_new _ _ _ _) (one_int _ _) (by unfold maxLen; omega) (by omega) (by have := hB.out.size; simp; omega) ?_; intro a3 c3 w3 hown3 hb3 hnil3)
        rw [HRr.out, ← runesV_snoc] at hown3
        have O3 := Lib.hid hown3
        have B3 := Lib.hid ((hB.out.alloc hB.out.size _).trans hb3)
        clear hown3 hb3 hnil3 hO hB
        go_roundw
        case rel => exact ⟨pos + _, g, P ++ [r], hg, by go_num, by omega, Lib.hid (by rw [hP.out, HST.out]; simp), Lib.hid (by intro x hx; rcases List.mem_append.1 hx with hx | hx; exact hG.out x hx; simp at hx; rw [hx]; exact NE.out), by rw [List.length_append]; exact O3, B3⟩
        case measure => simp [intOf]; omega
      · have c6 := c3' hN
        clear c3' c5'
        subst hN
        go_wp2_with fail
        refine hone.out.mono ?_
        rintro e w' ⟨rfl, rfl⟩
        go_wp2_with fail
        refine hgd.out.mono ?_
        rintro e w' ⟨rfl, rfl⟩
        go_wp2_with (at_builtin; refine wpList_append_any rfl (.tmp 41) (.tmp 43) 128 rfl w.heap.size 21 i0 (.int .i32 0) 1 4 Try.underlying128 hi hz0 hz1 hz2 rfl (by decide) _ P.length _ rfl (hO.out.alloc _) _ 1 1 _ rfl (some_none _) rfl (one_new _ _ _ _) (one_int _ _) (by unfold maxLen; omega) (by omega) (by have := hB.out.size; simp; omega) ?_; intro a3 c3 w3 hown3 hb3 hnil3)
        rw [HRr.out, ← runesV_snoc] at hown3
        have O3 := Lib.hid hown3
        have B3 := Lib.hid ((hB.out.alloc hB.out.size _).trans hb3)
        clear hown3 hb3 hnil3 hO hB
        go_roundw
        case rel => exact ⟨pos + _, g, P ++ [r], hg, by go_num, by omega, Lib.hid (by rw [hP.out, HST.out]; simp), Lib.hid (by intro x hx; rcases List.mem_append.1 hx with hx | hx; exact hG.out x hx; simp at hx; rw [hx]; exact NE.out), by rw [List.length_append]; exact O3, B3⟩
        case measure => simp [intOf]; omega
      · have c6 := c5' hN
        clear c3' c5'
        subst hN
        go_wp2_with fail
        refine hone.out.mono ?_
        rintro e w' ⟨rfl, rfl⟩
        go_wp2_with fail
        refine hgd.out.mono ?_
        rintro e w' ⟨rfl, rfl⟩
        go_wp2_with (at_builtin; refine wpList_append_any rfl (.tmp 41) (.tmp 43) 128 rfl w.heap.size 21 i0 (.int .i32 0) 1 4 Try.underlying128 hi hz0 hz1 hz2 rfl (by decide) _ P.length _ rfl (hO.out.alloc _) _ 1 1 _ rfl (some_none _) rfl (one_new _ _ _ _) (one_int _ _) (by unfold maxLen; omega) (by omega) (by have := hB.out.size; simp; omega) ?_; intro a3 c3 w3 hown3 hb3 hnil3)
        rw [HRr.out, ← runesV_snoc] at hown3
        have O3 := Lib.hid hown3
        have B3 := Lib.hid ((hB.out.alloc hB.out.size _).trans hb3)
        clear hown3 hb3 hnil3 hO hB
        go_roundw
        case rel => exact ⟨pos + _, g, P ++ [r], hg, by go_num, by omega, Lib.hid (by rw [hP.out, HST.out]; simp), Lib.hid (by intro x hx; rcases List.mem_append.1 hx with hx | hx; exact hG.out x hx; simp at hx; rw [hx]; exact NE.out), by rw [List.length_append]; exact O3, B3⟩
        case measure => simp [intOf]; omega
    · have he : runesS s = P := by rw [hP.out, runesN_end s f pos hlt, List.append_nil]
      have HE := Lib.hid he
      clear he
      obtain ⟨a4, c4, rfl⟩ : ∃ a4 c4, u4 = .slice a4 P.length c4 := by
        rcases hO.out.2 with ⟨h, h0⟩ | ⟨g', c', cur, h, _⟩
        · exact ⟨none, 0, by rw [h, h0]⟩
        · exact ⟨_, c', h⟩
      have hgood := lenS_good (s := s) (by rw [HE.out]; exact hG.out)
      have HG2 := Lib.hid hgood
      clear hgood
      go_wp2_with fail
      go_ret2
      exact Or.inl ⟨by rw [HG2.out]; omega, a4, c4, by rw [HE.out]; rfl, by rw [HE.out]; exact hO.out, hB.out⟩
theorem holdsI_own {w : World} {B : Nat} {a : Option Addr} {c : Nat} {P : List Nat} (h : w.ownsRow B 21 1 (.slice a P.length c) P.length (runesV (intsN P))) : HoldsI .i32 w a P.length (intsN P) := by
  have hv := owns_holds h
  refine ⟨intsN_len P, fun h0 => ?_⟩
  obtain ⟨b, o, ha, hc⟩ := hv.2 h0
  exact ⟨b, o, ha, fun i hi => by rw [hc i hi, runesV, getD_map_int .i32 _ i (by rw [intsN_len]; exact hi)]⟩
theorem r1runes_any (s : ByteArray) (w : World) (hs : s.size ≤ 1048576) :
    Calls Try.prog 102 #[.string s] w (RunesP s w) := by
  refine (r1runesq_any s w hs).mono ?_
  rintro e w' (⟨h1, a, c, rfl, h2, h3⟩ | h)
  · exact Or.inl ⟨h1, a, c, rfl, holdsI_own h2, (owns_none h2).1, h3⟩
  · exact Or.inr h
end Go.Proofs.Ythboiklcjpnhbaa
/- contract of the document's Len -/
namespace Go.Proofs.Ythboiklcjpnhbaa
open Go.RowKit
set_option linter.unusedVariables false
set_option maxRecDepth 20000
set_option maxHeartbeats 800000 in
theorem rlen_any (s : ByteArray) (w : World) (hs : s.size ≤ 1048576) :
    Calls Try.prog 91 #[.string s] w fun e w' => e = .returned (.int .i64 (lenS s)) ∧ Below w.heap.size w w' := by
  have hr := Lib.hid (r1runes_any s w hs)
  by_cases hg : 0 ≤ lenS s
  · have hL := (lenS_pos hg).2
    have HL := Lib.hid hL; have HG := Lib.hid hg
    clear hg hL
    obtain ⟨n, hn⟩ : ∃ n, (runesS s).length = n := ⟨_, rfl⟩
    have hle := runesS_le s
    unfold RunesP at hr
    rw [hn] at hr hle
    rw [hn] at HL
    clear hn
    go_enter Try.func91, Try.ntmps91
    go_wp2_with fail
    refine hr.out.mono ?_
    rintro e w1 (⟨h1, a, c, rfl, h2, h3, h4⟩ | ⟨h1, _⟩)
    rotate_left
    · exact absurd HG.out (by omega)
    have H4 := Lib.hid h4
    clear h1 h2 h3 h4
    go_wp2_with fail
    go_ret
    exact ⟨ret_int HL.out.symm, H4.out⟩
  · have hb : lenS s = -1 := by have := (lenS_bd s).1; omega
    have HB := Lib.hid hb; have HG := Lib.hid hg
    clear hg hb
    go_enter Try.func91, Try.ntmps91
    go_wp2_with fail
    refine hr.out.mono ?_
    rintro e w1 (⟨h1, _⟩ | ⟨h1, rfl, h2⟩)
    · exact absurd h1 (by have := HG.out; omega)
    clear h1
    go_wp2_with fail
    go_ret
    exact ⟨ret_int HB.out.symm, h2⟩
end Go.Proofs.Ythboiklcjpnhbaa
/- contract of the document's Word -/
namespace Go.Proofs.Ythboiklcjpnhbaa
open Go.RowKit
set_option linter.unusedVariables false
set_option maxRecDepth 20000
theorem rword_any (s : ByteArray) (w : World) (hs : s.size ≤ 1048576) :
    Calls Try.prog 92 #[.string s] w fun e w' => e = .returned (.bool (decide (1 ≤ lenS s ∧ lenS s ≤ 12))) ∧ Below w.heap.size w w' := by
  have h1 := Lib.hid (fun w => rlen_any s w hs)
  obtain ⟨n, hn⟩ : ∃ n, lenS s = n := ⟨_, rfl⟩
  rw [hn]
  simp only [hn] at h1
  clear hn
  by_cases h : 1 ≤ n
  · rw [show decide (1 ≤ n ∧ n ≤ 12) = decide (n ≤ 12) by simp [h]]
    go_enter Try.func92, Try.ntmps92
    go_wp2_with fail
    refine (h1.out _).mono ?_
    rintro e w1 ⟨rfl, hb⟩
    go_wp2_with fail
    refine (h1.out _).mono ?_
    rintro e w2 ⟨rfl, hb2⟩
    go_wp2_with fail
    go_ret
    exact ⟨rfl, hb.trans (hb2.mono hb.size)⟩
  · rw [show decide (1 ≤ n ∧ n ≤ 12) = false by simp [h]]
    go_enter Try.func92, Try.ntmps92
    go_wp2_with fail
    refine (h1.out _).mono ?_
    rintro e w1 ⟨rfl, hb⟩
    go_wp2_with fail
    go_ret
    exact ⟨rfl, hb⟩
end Go.Proofs.Ythboiklcjpnhbaa
/- contract of the document's Asked -/
namespace Go.Proofs.Ythboiklcjpnhbaa
open Go.RowKit
set_option linter.unusedVariables false
set_option maxRecDepth 20000
theorem rasked_any (s : ByteArray) (w : World) (hs : s.size ≤ 1048576) :
    Calls Try.prog 70 #[.string s] w fun e w' => e = .returned (.bool (decide (0 ≤ lenS s ∧ lenS s ≤ 16))) ∧ Below w.heap.size w w' := by
  have h1 := Lib.hid (fun w => rlen_any s w hs)
  obtain ⟨n, hn⟩ : ∃ n, lenS s = n := ⟨_, rfl⟩
  rw [hn]
  simp only [hn] at h1
  clear hn
  by_cases h : 0 ≤ n
  · rw [show decide (0 ≤ n ∧ n ≤ 16) = decide (n ≤ 16) by simp [h]]
    go_enter Try.func70, Try.ntmps70
    go_wp2_with fail
    refine (h1.out _).mono ?_
    rintro e w1 ⟨rfl, hb⟩
    go_wp2_with fail
    refine (h1.out _).mono ?_
    rintro e w2 ⟨rfl, hb2⟩
    go_wp2_with fail
    go_ret
    exact ⟨rfl, hb.trans (hb2.mono hb.size)⟩
  · rw [show decide (0 ≤ n ∧ n ≤ 16) = false by simp [h]]
    go_enter Try.func70, Try.ntmps70
    go_wp2_with fail
    refine (h1.out _).mono ?_
    rintro e w1 ⟨rfl, hb⟩
    go_wp2_with fail
    go_ret
    exact ⟨rfl, hb⟩
end Go.Proofs.Ythboiklcjpnhbaa
/- messages in the document: what may be (by gen/md1.py) -/
namespace Go.Proofs.Ythboiklcjpnhbaa
open Go.RowKit
set_option linter.unusedVariables false
set_option maxRecDepth 20000
theorem rin_lit (n lo hi : Int) (c : Bool) (w : World) (h : inR n lo hi = c) : Calls Try.prog 39 #[.int .i64 n, .int .i64 lo, .int .i64 hi] w fun e w' => e = .returned (.bool c) ∧ w = w' := by
  unfold inR at h
  by_cases h1 : lo ≤ n
  · by_cases h2 : n ≤ hi
    · obtain rfl : c = true := by rw [← h]; exact decide_eq_true ⟨h1, h2⟩
      clear h
      go_enter Try.func39, Try.ntmps39
      go_wp2_with fail
      go_ret
      exact ⟨rfl, rfl⟩
    · obtain rfl : c = false := by rw [← h]; exact decide_eq_false (fun h => h2 h.2)
      clear h
      go_enter Try.func39, Try.ntmps39
      go_wp2_with fail
      go_ret
      exact ⟨rfl, rfl⟩
  · obtain rfl : c = false := by rw [← h]; exact decide_eq_false (fun h => h1 h.1)
    clear h
    go_enter Try.func39, Try.ntmps39
    go_wp2_with fail
    go_ret
    exact ⟨rfl, rfl⟩
def allN (zs : List Int) : Bool := zs.all fun z => inR z 0 2147483647
theorem allN_bad {zs : List Int} {j : Nat} (h : inR (zs.getD j 0) 0 2147483647 = false) : allN zs = false := by
  have hj : j < zs.length := by
    rcases Nat.lt_or_ge j zs.length with h2 | h2
    · exact h2
    · rw [List.getD_eq_getElem?_getD, List.getElem?_eq_none h2] at h; exact absurd h (by decide)
  unfold allN
  rw [List.all_eq_false]
  refine ⟨zs[j], List.getElem_mem hj, ?_⟩
  rw [List.getD_eq_getElem?_getD, List.getElem?_eq_getElem hj] at h
  simpa using h
theorem allN_good {zs : List Int} (h : ∀ j, j < zs.length → inR (zs.getD j 0) 0 2147483647 = true) : allN zs = true := by
  unfold allN
  rw [List.all_eq_true]
  intro x hx
  obtain ⟨j, hj, rfl⟩ := List.getElem_of_mem hx
  have := h j hj
  rw [List.getD_eq_getElem?_getD, List.getElem?_eq_getElem hj] at this
  exact this
set_option maxHeartbeats 1600000 in
theorem rnums_any (a : Option Addr) (n cap : Nat) (zs : List Int) (c : Bool) (w : World) (h : HoldsI .i64 w a n zs) (hn : n ≤ 8) (hc : allN zs = c) :
    Calls Try.prog 40 #[.slice a n cap] w fun e w' => e = .returned (.bool c) ∧ w = w' := by
  have HH := Lib.hid h; have HL := Lib.hid h.1; have HC := Lib.hid hc
  clear h hc
  go_enter Try.func40, Try.ntmps40
  go_wp2_with fail
  go_loop [3] (fun iv => ∃ j : Nat, j ≤ n ∧ iv = .int .i64 (j : Int) ∧ Hid (∀ i, i < j → inR (zs.getD i 0) 0 2147483647 = true)) (fun iv => n - (intOf iv).toNat)
  case atStart => exact ⟨0, by omega, rfl, Lib.hid (by omega)⟩
  case round =>
    obtain ⟨j, hj, rfl, HA⟩ := hrel
    by_cases hlt : j < n
    · obtain ⟨qb, qo, rfl, hcc⟩ := HH.out.at (by omega)
      have x0 := hcc j hlt
      obtain ⟨z, hz⟩ : ∃ z, zs.getD j 0 = z := ⟨_, rfl⟩
      rw [hz] at x0
      have HZ := Lib.hid hz
      clear hcc hz
      by_cases h1 : z < 0
      · obtain rfl : c = false := by
          rw [← HC.out]; refine allN_bad (j := j) ?_
          rw [HZ.out]; unfold inR; exact decide_eq_false (by omega)
        go_wp2_with fail
        go_ret
        exact ⟨rfl, rfl⟩
      · by_cases h2 : 2147483647 < z
        · obtain rfl : c = false := by
            rw [← HC.out]; refine allN_bad (j := j) ?_
            rw [HZ.out]; unfold inR; exact decide_eq_false (by omega)
          go_wp2_with fail
          go_ret
          exact ⟨rfl, rfl⟩
        · have HA2 := Lib.hid (show ∀ i, i < j + 1 → inR (zs.getD i 0) 0 2147483647 = true from fun i hi => by
            by_cases e : i = j
            · subst e; rw [HZ.out]; unfold inR; exact decide_eq_true (by omega)
            · exact HA.out i (by omega))
          go_wp2_with fail
          go_round
          case rel => exact ⟨j + 1, by omega, by go_num, HA2⟩
          case measure => simp [intOf]; omega
    · obtain rfl : c = true := by
        rw [← HC.out]; exact allN_good fun i hi => HA.out i (by have := HL.out; omega)
      go_wp2_with fail
      go_ret
      exact ⟨rfl, rfl⟩
theorem ritem_lit (k1 : Int) (k2 : Tx) (c : Bool) (w : World) (hs : k2.size ≤ 1048576) (h : mayItem (k1, k2) = c) :
    Calls Try.prog 71 #[.agg #[.int .i64 k1, .string k2]] w fun e w' => e = .returned (.bool c) ∧ Below w.heap.size w w' := by
  unfold mayItem at h
  simp only at h
  obtain ⟨z1, h1⟩ : ∃ z, inR k1 0 4 = z := ⟨_, rfl⟩
  obtain ⟨z2, h2⟩ : ∃ z, decide (wordP k2) = z := ⟨_, rfl⟩
  rw [h1, h2] at h
  have C1 := Lib.hid (fun w => rin_lit k1 0 4 z1 w h1)
  have C2 := Lib.hid (fun w => show Calls Try.prog 92 #[.string k2] w (fun e w' => e = .returned (.bool z2) ∧ Below w.heap.size w w') from by subst h2; exact rword_any k2 w hs)
  have BX := Lib.hid (below_one w (.cells #[.int .i64 k1, .string k2] 27))
  clear h1 h2 hs
  cases z1
  · simp only [Bool.false_and] at h
    subst h
    clear C2
    go_enter Try.func71, Try.ntmps71
    go_wp2_with fail
    refine (C1.out _).mono ?_
    rintro e w' ⟨rfl, rfl⟩
    go_wp2_with fail
    go_ret
    exact ⟨rfl, BX.out⟩
  · simp only [Bool.true_and] at h
    subst h
    go_enter Try.func71, Try.ntmps71
    go_wp2_with fail
    refine (C1.out _).mono ?_
    rintro e w' ⟨rfl, rfl⟩
    go_wp2_with fail
    refine (C2.out _).mono ?_
    rintro e w' ⟨rfl, hb⟩
    have BE := Lib.hid (BX.out.trans (hb.mono BX.out.size))
    clear hb
    go_wp2_with fail
    go_ret
    exact ⟨rfl, BE.out⟩
set_option maxHeartbeats 3200000 in
set_option maxRecDepth 100000 in
theorem rMayAsk (x : AskP) (z : Bool) (w : World) (ht : x.text.size ≤ 1048576) (ha : x.aw.size ≤ 1048576) (h : mayAsk x = z) :
    Calls Try.prog 41 #[agAsk x] w fun e w' => e = .returned (.bool z) ∧ Below w.heap.size w w' := by
  have h : (allN [x.query, x.seq, x.epoch] && (inR x.slot 0 3 && (inR x.shard 0 5 && (inR x.k 0 4 && (inR x.batch 1 5 && (decide (0 ≤ lenS x.text ∧ lenS x.text ≤ 16) && mayAfter x.first (x.ad, x.aw))))))) = z := by
    rw [← h]; unfold mayAsk allN
    simp only [List.all_cons, List.all_nil, Bool.and_true]
    ac_rfl
  obtain ⟨z0, h0⟩ : ∃ z, allN [x.query, x.seq, x.epoch] = z := ⟨_, rfl⟩
  obtain ⟨z1, h1⟩ : ∃ z, inR x.slot 0 3 = z := ⟨_, rfl⟩
  obtain ⟨z2, h2⟩ : ∃ z, inR x.shard 0 5 = z := ⟨_, rfl⟩
  obtain ⟨z3, h3⟩ : ∃ z, inR x.k 0 4 = z := ⟨_, rfl⟩
  obtain ⟨z4, h4⟩ : ∃ z, inR x.batch 1 5 = z := ⟨_, rfl⟩
  obtain ⟨z5, h5⟩ : ∃ z, decide (0 ≤ lenS x.text ∧ lenS x.text ≤ 16) = z := ⟨_, rfl⟩
  obtain ⟨z6, h6⟩ : ∃ z, mayAfter x.first (x.ad, x.aw) = z := ⟨_, rfl⟩
  rw [h0, h1, h2, h3, h4, h5, h6] at h
  have C0 := Lib.hid (fun w => rnums_any _ 3 3 [x.query, x.seq, x.epoch] z0 _ (holdsI_lit w [x.query, x.seq, x.epoch] 3 (0, 0)) (by omega) h0)
  have C1 := Lib.hid (fun w => rin_lit x.slot 0 3 z1 w h1)
  have C2 := Lib.hid (fun w => rin_lit x.shard 0 5 z2 w h2)
  have C3 := Lib.hid (fun w => rin_lit x.k 0 4 z3 w h3)
  have C4 := Lib.hid (fun w => rin_lit x.batch 1 5 z4 w h4)
  have C5 := Lib.hid (fun w => show Calls Try.prog 70 #[.string x.text] w (fun e w' => e = .returned (.bool z5) ∧ Below w.heap.size w w') from h5 ▸ rasked_any x.text w ht)
  have C6 := Lib.hid (fun (hf : x.first = false) w => ritem_lit x.ad x.aw z6 w ha (by rw [← h6]; unfold mayAfter; rw [hf]; rfl))
  have E6 := Lib.hid (fun (hf : x.first = true) => (show (decide (x.ad = 0) && x.aw.toList.isEmpty) = z6 from by rw [← h6]; unfold mayAfter; rw [hf]; rfl))
  obtain ⟨w3, hw3⟩ : ∃ w3, w.alloc (.cells #[.int .i64 x.slot, .int .i64 x.query, .int .i64 x.shard, .int .i64 x.seq, .int .i64 x.epoch, .string x.text, .int .i64 x.k, .int .i64 x.batch, .bool x.first, .int .i64 x.ad, .string x.aw] 29) = w3 := ⟨_, rfl⟩
  have BX := Lib.hid (show Below w.heap.size w w3 from hw3 ▸ below_one w _)
  have XI := Lib.hid (show MAskIn w3 w.heap.size x from hw3 ▸ MAskIn_new _ x _ _ (0, 0) rfl)
  clear h0 h1 h2 h3 h4 h5 h6 ht ha
  go_enter Try.func41, Try.ntmps41
  go_upto_region 1 with fail
  try rw [hw3]
  clear hw3
  obtain ⟨p, hp⟩ : ∃ p, w.heap.size = p := ⟨_, rfl⟩
  rw [hp] at XI
  try simp only [hp]
  clear hp
  have hX := XI.out
  unfold MAskIn at hX
  obtain ⟨x0, x1, x2, x3, x4, x5, x6, x7, x8, x9, x10⟩ := hX
  go_wp2_with fail
  have hb4 := below_one w3 (.cells #[.int .i64 x.query, .int .i64 x.seq, .int .i64 x.epoch] 3)
  have X4 := Lib.hid (XI.out.below hb4)
  have B4 := Lib.hid (BX.out.trans (hb4.mono BX.out.size))
  have C0' := Lib.hid (C0.out w3)
  clear x0 x1 x2 x3 x4 x5 x6 x7 x8 x9 x10 hb4 C0
  refine C0'.out.mono ?_
  rintro e w4 ⟨rfl, hw4⟩
  simp only [List.map_cons, List.map_nil] at hw4
  rw [hw4] at X4 B4
  clear hw4 C0'
  have hX := X4.out
  unfold MAskIn at hX
  obtain ⟨x0, x1, x2, x3, x4, x5, x6, x7, x8, x9, x10⟩ := hX
  cases z0
  · obtain rfl : z = false := by rw [← h]; simp
    clear h
    go_wp2_with fail
    go_ret
    exact ⟨rfl, B4.out⟩
  cases z1
  · obtain rfl : z = false := by rw [← h]; simp
    clear h
    go_wp2_with fail
    refine (C1.out _).mono ?_
    rintro e w' ⟨rfl, rfl⟩
    go_wp2_with fail
    go_ret
    exact ⟨rfl, B4.out⟩
  cases z2
  · obtain rfl : z = false := by rw [← h]; simp
    clear h
    go_wp2_with fail
    refine (C1.out _).mono ?_
    rintro e w' ⟨rfl, rfl⟩
    go_wp2_with fail
    refine (C2.out _).mono ?_
    rintro e w' ⟨rfl, rfl⟩
    go_wp2_with fail
    go_ret
    exact ⟨rfl, B4.out⟩
  cases z3
  · obtain rfl : z = false := by rw [← h]; simp
    clear h
    go_wp2_with fail
    refine (C1.out _).mono ?_
    rintro e w' ⟨rfl, rfl⟩
    go_wp2_with fail
    refine (C2.out _).mono ?_
    rintro e w' ⟨rfl, rfl⟩
    go_wp2_with fail
    refine (C3.out _).mono ?_
    rintro e w' ⟨rfl, rfl⟩
    go_wp2_with fail
    go_ret
    exact ⟨rfl, B4.out⟩
  cases z4
  · obtain rfl : z = false := by rw [← h]; simp
    clear h
    go_wp2_with fail
    refine (C1.out _).mono ?_
    rintro e w' ⟨rfl, rfl⟩
    go_wp2_with fail
    refine (C2.out _).mono ?_
    rintro e w' ⟨rfl, rfl⟩
    go_wp2_with fail
    refine (C3.out _).mono ?_
    rintro e w' ⟨rfl, rfl⟩
    go_wp2_with fail
    refine (C4.out _).mono ?_
    rintro e w' ⟨rfl, rfl⟩
    go_wp2_with fail
    go_ret
    exact ⟨rfl, B4.out⟩
  cases z5
  · obtain rfl : z = false := by rw [← h]; simp
    clear h
    go_wp2_with fail
    refine (C1.out _).mono ?_
    rintro e w' ⟨rfl, rfl⟩
    go_wp2_with fail
    refine (C2.out _).mono ?_
    rintro e w' ⟨rfl, rfl⟩
    go_wp2_with fail
    refine (C3.out _).mono ?_
    rintro e w' ⟨rfl, rfl⟩
    go_wp2_with fail
    refine (C4.out _).mono ?_
    rintro e w' ⟨rfl, rfl⟩
    go_wp2_with fail
    refine (C5.out _).mono ?_
    rintro e w5 ⟨rfl, hb⟩
    have X5 := Lib.hid (X4.out.below hb)
    have B5 := Lib.hid (B4.out.trans (hb.mono B4.out.size))
    clear hb x0 x1 x2 x3 x4 x5 x6 x7 x8 x9 x10
    have hX := X5.out
    unfold MAskIn at hX
    obtain ⟨x0, x1, x2, x3, x4, x5, x6, x7, x8, x9, x10⟩ := hX
    go_wp2_with fail
    go_ret
    exact ⟨rfl, B5.out⟩
  obtain rfl : z6 = z := by rw [← h]; rfl
  clear h
  go_wp2_with fail
  refine (C1.out _).mono ?_
  rintro e w' ⟨rfl, rfl⟩
  go_wp2_with fail
  refine (C2.out _).mono ?_
  rintro e w' ⟨rfl, rfl⟩
  go_wp2_with fail
  refine (C3.out _).mono ?_
  rintro e w' ⟨rfl, rfl⟩
  go_wp2_with fail
  refine (C4.out _).mono ?_
  rintro e w' ⟨rfl, rfl⟩
  go_wp2_with fail
  refine (C5.out _).mono ?_
  rintro e w5 ⟨rfl, hb⟩
  have X5 := Lib.hid (X4.out.below hb)
  have B5 := Lib.hid (B4.out.trans (hb.mono B4.out.size))
  clear hb x0 x1 x2 x3 x4 x5 x6 x7 x8 x9 x10
  have hX := X5.out
  unfold MAskIn at hX
  obtain ⟨x0, x1, x2, x3, x4, x5, x6, x7, x8, x9, x10⟩ := hX
  cases hf : x.first with
  | false =>
    rw [hf] at x8
    have D6 := Lib.hid (C6.out hf)
    clear C6 E6 hf
    go_wp2_with fail
    refine (D6.out _).mono ?_
    rintro e w6 ⟨rfl, hb⟩
    have B6 := Lib.hid (B5.out.trans (hb.mono B5.out.size))
    clear hb
    go_wp2_with fail
    go_ret
    exact ⟨rfl, B6.out⟩
  | true =>
    rw [hf] at x8
    have D6 := E6.out hf
    clear C6 E6 hf
    by_cases e : x.ad = 0
    · rw [e] at x9
      by_cases e2 : x.aw.toList = []
      · obtain rfl : z6 = true := by rw [← D6]; simp [e, e2]
        have f1 : x.aw.toList.isEmpty = true := by simp [e2]
        have f2 : (x.aw.toList == []) = true := by simp [e2]
        have E2 := Lib.hid e2; have E1 := Lib.hid e
        clear D6 e2 e
        go_wp2_with fail
        go_ret
        exact ⟨rfl, B5.out⟩
      · obtain rfl : z6 = false := by rw [← D6]; simp [e2]
        have f1 : x.aw.toList.isEmpty = false := by simp [e2]
        have f2 : (x.aw.toList == []) = false := by simp [e2]
        have f3 : (!x.aw.toList.isEmpty) = true := by simp [e2]
        have E1 := Lib.hid e
        clear D6 e
        go_wp2_with fail
        go_ret
        exact ⟨rfl, B5.out⟩
    · obtain rfl : z6 = false := by rw [← D6]; simp [e]
      have f0 : (x.ad == 0) = false := by simpa using e
      clear D6
      go_wp2_with fail
      go_ret
      exact ⟨rfl, B5.out⟩
end Go.Proofs.Ythboiklcjpnhbaa
/- contract of the document's Compare -/
namespace Go.Proofs.Ythboiklcjpnhbaa
open Go.RowKit
set_option linter.unusedVariables false
set_option maxRecDepth 20000
theorem drop_at (s : ByteArray) (j : Nat) (h : j < s.size) : ∃ c : UInt8, s.toList.drop j = c :: s.toList.drop (j + 1) ∧ c.toNat = byteS s j := by
  have hl : j < s.toList.length := by rw [ByteArray.toList_eq, Array.length_toList]; exact h
  refine ⟨s.toList[j], (List.drop_eq_getElem_cons hl), ?_⟩
  rw [← byteS_at s j h]
  simp only [ByteArray.toList_eq, Array.getElem_toList]
  rfl
theorem drop_end (s : ByteArray) (j : Nat) (h : s.size ≤ j) : s.toList.drop j = [] := by
  apply List.drop_eq_nil_of_le
  rw [ByteArray.toList_eq, Array.length_toList]; exact h
theorem drewn_more {w w1 : World} (h : ∃ m, w1 = w.drewN m) (n : Nat) : ∃ m, w1.drewN n = w.drewN m := by
  obtain ⟨m, rfl⟩ := h; exact ⟨_, World.drewN_drewN _ _ _⟩
set_option maxHeartbeats 1600000 in
theorem rcompare_quiet (a b : ByteArray) (w : World) (hsa : a.size ≤ 1048576) (hsb : b.size ≤ 1048576) :
    Calls Try.prog 93 #[.string a, .string b] w fun e w' => e = .returned (.int .i64 (cmpS a b)) ∧ ∃ m, w' = w.drewN m := by
  go_enter Try.func93, Try.ntmps93
  go_wp2_with fail
  go_loopw [5] (fun iv wr => ∃ j : Nat, j ≤ a.size ∧ j ≤ b.size ∧ iv = .int .i64 j ∧ Hid (cmpS a b = cmpL (a.toList.drop j) (b.toList.drop j)) ∧ Hid (∃ m, wr = w.drewN m)) (fun iv _ => a.size - (intOf iv).toNat)
  case atStart => exact ⟨0, by omega, by omega, rfl, Lib.hid rfl, Lib.hid ⟨0, rfl⟩⟩
  case round =>
    obtain ⟨j, hja, hjb, rfl, hC, hB⟩ := hrel
    by_cases hla : j < a.size
    · by_cases hlb : j < b.size
      · obtain ⟨c, hc1, hc2⟩ := drop_at a j hla
        obtain ⟨d, hd1, hd2⟩ := drop_at b j hlb
        have hx := byteS_at a j hla
        have hy := byteS_at b j hlb
        have hcd := cmpL_cons c d (a.toList.drop (j + 1)) (b.toList.drop (j + 1))
        rw [← hc1, ← hd1, hc2, hd2, ← hC.out] at hcd
        have bx := byteS_lt a j; have by' := byteS_lt b j
        obtain ⟨x, hx2⟩ : ∃ x, byteS a j = x := ⟨_, rfl⟩
        obtain ⟨y, hy2⟩ : ∃ y, byteS b j = y := ⟨_, rfl⟩
        rw [hx2] at hx hcd bx; rw [hy2] at hy hcd by'
        have HCD := Lib.hid hcd
        have g1 : (j : Int) < (a.size : Int) := by omega
        have g2 : (j : Int) < (b.size : Int) := by omega
        have g3 : (0 : Int) ≤ (j : Int) := by omega
        have HB1 := Lib.hid (fun nn => drewn_more hB.out nn)
        clear hc1 hc2 hd1 hd2 hx2 hy2 hcd hC hB
        rcases Nat.lt_trichotomy x y with h | h | h
        · have x1 : decide ((x : Int) < (y : Int)) = true := by simp; omega
          have hv := HCD.out
          rw [if_pos h] at hv
          have HV := Lib.hid hv
          clear hv
          go_upto_region 4 with fail
          go_quiet (fail)
          go_wp2_with fail
          go_ret
          exact ⟨ret_int HV.out.symm, HB1.out _⟩
        · subst h
          have hv := HCD.out
          rw [if_neg (Nat.lt_irrefl _), if_neg (Nat.lt_irrefl _)] at hv
          have HV := Lib.hid hv
          have x1 : decide ((x : Int) < (x : Int)) = false := by simp
          have x2 : decide ((x : Int) > (x : Int)) = false := by simp
          clear hv
          go_upto_region 4 with fail
          go_quiet (fail)
          go_upto_region 6 with fail
          go_quiet (fail)
          go_wp2_with fail
          go_roundw
          case rel => exact ⟨j + 1, by omega, by omega, by go_num, HV, Lib.hid (HB1.out _)⟩
          case measure => simp [intOf]; omega
        · have x1 : decide ((x : Int) < (y : Int)) = false := by simp; omega
          have x2 : decide ((x : Int) > (y : Int)) = true := by simp; omega
          have hv := HCD.out
          rw [if_neg (by omega), if_pos h] at hv
          have HV := Lib.hid hv
          clear hv
          go_upto_region 4 with fail
          go_quiet (fail)
          go_upto_region 6 with fail
          go_quiet (fail)
          go_wp2_with fail
          go_ret
          exact ⟨ret_int HV.out.symm, drewn_more (HB1.out _) _⟩
      · have h1 := drop_end b j (by omega)
        obtain ⟨c, hc1, _⟩ := drop_at a j hla
        have hv := hC.out
        rw [h1, hc1] at hv
        have HV := Lib.hid (hv.trans (show cmpL (c :: a.toList.drop (j + 1)) [] = 1 by simp [cmpL, Op.bytesLess]))
        clear h1 hc1 hv hC
        go_wp2_with fail
        go_ret
        exact ⟨ret_int HV.out.symm, hB.out⟩
    · have h1 := drop_end a j (by omega)
      by_cases hlb : j < b.size
      · obtain ⟨c, hc1, _⟩ := drop_at b j hlb
        have hv := hC.out
        rw [h1, hc1] at hv
        have HV := Lib.hid (hv.trans (show cmpL [] (c :: b.toList.drop (j + 1)) = -1 by simp [cmpL, Op.bytesLess]))
        clear h1 hc1 hv hC
        go_wp2_with fail
        go_ret
        exact ⟨ret_int HV.out.symm, hB.out⟩
      · have h2 := drop_end b j (by omega)
        have hv := hC.out
        rw [h1, h2] at hv
        have HV := Lib.hid (hv.trans (show cmpL [] [] = 0 from rfl))
        clear h1 h2 hv hC
        go_wp2_with fail
        go_ret
        exact ⟨ret_int HV.out.symm, hB.out⟩
theorem rcompare_any (a b : ByteArray) (w : World) (hsa : a.size ≤ 1048576) (hsb : b.size ≤ 1048576) :
    Calls Try.prog 93 #[.string a, .string b] w fun e w' => e = .returned (.int .i64 (cmpS a b)) ∧ Below w.heap.size w w' :=
  (rcompare_quiet a b w hsa hsb).mono fun _ _ ⟨h1, m, h2⟩ => ⟨h1, by rw [h2]; exact below_drewN _ _⟩
end Go.Proofs.Ythboiklcjpnhbaa
/- the document's order of items: Less, Put, Sort -/
namespace Go.Proofs.Ythboiklcjpnhbaa
open Go.RowKit
set_option linter.unusedVariables false
set_option maxRecDepth 20000
theorem rcompare_lit (x y : Tx) (v : Int) (w : World) (hx : x.size ≤ 1048576) (hy : y.size ≤ 1048576) (hv : cmpS x y = v) :
    Calls Try.prog 93 #[.string x, .string y] w fun e w' => e = .returned (.int .i64 v) ∧ Below w.heap.size w w' := by subst hv; exact rcompare_any x y w hx hy
theorem rlessI_any (a b : KV) (w : World) (ha : a.2.size ≤ 1048576) (hb : b.2.size ≤ 1048576) :
    Calls Try.prog 72 #[keyV a, keyV b] w fun e w' => e = .returned (.bool (lessK a b)) ∧ Below w.heap.size w w' := by
  obtain ⟨c, hc⟩ : ∃ c, lessK a b = c := ⟨_, rfl⟩
  rw [hc]
  have hc2 : c = true ↔ (a.1 < b.1 ∨ (a.1 = b.1 ∧ cmpS a.2 b.2 < 0)) := by rw [← ordK_lt, ← hc]; exact decide_eq_true_iff
  clear hc
  obtain ⟨a1, a2⟩ := a
  obtain ⟨b1, b2⟩ := b
  simp only at hc2 ha hb
  unfold keyV
  simp only
  have BB := Lib.hid ((Below.refl w.heap.size w).alloc (Nat.le_refl _) (.cells #[.int .i64 a1, .string a2] 27) |>.alloc (by simp) (.cells #[.int .i64 b1, .string b2] 27))
  rcases Int.lt_trichotomy a1 b1 with h | h | h
  · obtain rfl : c = true := hc2.2 (Or.inl h)
    have g1 : decide (a1 < b1) = true := decide_eq_true h
    clear hc2
    go_enter Try.func72, Try.ntmps72
    go_wp2_with fail
    go_ret
    exact ⟨rfl, BB.out⟩
  · subst h
    have g1 : decide (a1 < a1) = false := by simp
    have g2 : (a1 == a1) = true := by simp
    obtain ⟨v, hv⟩ : ∃ v, cmpS a2 b2 = v := ⟨_, rfl⟩
    rw [hv] at hc2
    have HV := Lib.hid hv
    have hcv : c = decide (v < 0) := by
      cases c
      · symm; rw [decide_eq_false_iff_not]; intro h; exact absurd (hc2.2 (Or.inr ⟨rfl, h⟩)) (by simp)
      · symm; rw [decide_eq_true_iff]; rcases hc2.1 rfl with h | h; omega; exact h.2
    subst hcv
    clear hc2 hv
    go_enter Try.func72, Try.ntmps72
    go_wp2_with fail
    refine (rcompare_lit a2 b2 v _ ha hb HV.out).mono ?_
    rintro e w' ⟨rfl, hb2⟩
    go_wp2_with fail
    go_ret
    exact ⟨rfl, BB.out.trans (hb2.mono BB.out.size)⟩
  · obtain rfl : c = false := by
      cases c
      · rfl
      · rcases hc2.1 rfl with h2 | h2 <;> omega
    have g1 : decide (a1 < b1) = false := by rw [decide_eq_false_iff_not]; omega
    have g2 : (a1 == b1) = false := by rw [beq_eq_false_iff_ne]; omega
    clear hc2
    go_enter Try.func72, Try.ntmps72
    go_wp2_with fail
    go_ret
    exact ⟨rfl, BB.out⟩
theorem rlessI_lit (a b : KV) (c : Bool) (w : World) (ha : a.2.size ≤ 1048576) (hb : b.2.size ≤ 1048576) (hc : lessK a b = c) :
    Calls Try.prog 72 #[keyV a, keyV b] w fun e w' => e = .returned (.bool c) ∧ Below w.heap.size w w' := by subst hc; exact rlessI_any a b w ha hb
theorem item_info : (Try.prog.info? 27).map (fun i => (i.zero, i.size, i.bytes)) = some (some (.agg #[.int .i64 0, .string ⟨#[]⟩]), 2, 24) := by kernel_rfl
/-- a new slice of these items -/
def RetI (w : World) (ys : List KV) (e : Ending) (w' : World) : Prop := ∃ a c, e = .returned (.slice a ys.length c) ∧ w'.ownsRow w.heap.size 27 2 (.slice a ys.length c) ys.length (keysV ys) ∧ Below w.heap.size w w'
theorem retI_own {w w' : World} {a : Option Addr} {c n : Nat} {ys zs : List KV} (h : ys = zs) (hn : ys.length = n) (hh : w'.ownsRow w.heap.size 27 2 (.slice a n c) n (keysV ys)) (hb : Below w.heap.size w w') (v : Value) (hv : v = .slice a n c) : RetI w zs (.returned v) w' := by
  subst h hn hv; exact ⟨a, c, rfl, hh, hb⟩
open Go.ChangeShapes Go.WideShapes Go.ChangeAt in
theorem two_new (w : World) (u v : Value) (e : TypeId) (fr : Nat × Nat) : ∀ ad, (some ⟨w.heap.size, 0, none⟩ : Option Addr) = some ad → ∀ j x, [u, v][j]? = some x → (w.alloc (.cells #[u, v] e fr)).cell? (ad.add j) = some x := by
  intro ad had j x hx
  obtain rfl := Option.some.inj had
  match j, hx with
  | 0, hx =>
    simp at hx; subst hx
    rw [add_plain, World.cell?_alloc_mark]; rfl
  | 1, hx =>
    simp at hx; subst hx
    rw [add_plain, World.cell?_alloc_mark]; rfl
theorem two_one (z : Int) (s : Tx) : ∀ u ∈ [Value.int .i64 z, .string s], u.oneCell' = true := by simp [Value.oneCell']
theorem keysV_snoc (ks : List KV) (k : KV) : keysV (ks ++ [k]) = keysV ks ++ [.int .i64 k.1, .string k.2] := by rw [keysV_app]; rfl
theorem drop_getD (l : List KV) (i : Nat) (h : i < l.length) : l.drop i = l.getD i k0 :: l.drop (i + 1) := by
  rw [List.drop_eq_getElem_cons h]; simp [List.getD_eq_getElem?_getD, h]
theorem _root_.Go.World.ownsRow.mono' {w : World} {base B : Nat} {e : TypeId} {size : Nat} {v : Value} {n : Nat} {xs : List Value} (h : w.ownsRow base e size v n xs) (hB : B ≤ base) : w.ownsRow B e size v n xs := by
  obtain ⟨h1, h2⟩ := h
  refine ⟨h1, ?_⟩
  rcases h2 with ⟨h2, h3⟩ | ⟨g, cap, cur, h2, h3, h4⟩
  · exact Or.inl ⟨h2, h3⟩
  · exact Or.inr ⟨g, cap, cur, h2, Nat.le_trans hB h3, h4⟩
/-- what the document's Put has so far -/
def PutInv (x : KV) (l : List KV) (i : Nat) (f : Bool) (P : List KV) : Prop :=
  (f = true ∧ P ++ l.drop i = putK x l) ∨ (f = false ∧ P = l.take i ∧ putK x l = l.take i ++ putK x (l.drop i))
theorem putInv_start (x : KV) (l : List KV) : PutInv x l 0 false [] := Or.inr ⟨rfl, rfl, by simp⟩
theorem putInv_true {x : KV} {l : List KV} {i : Nat} {P : List KV} (h : PutInv x l i true P) (hi : i < l.length) : PutInv x l (i + 1) true (P ++ [l.getD i k0]) := by
  rcases h with ⟨_, h⟩ | ⟨h, _⟩
  · rw [drop_getD l i hi] at h
    exact Or.inl ⟨rfl, by rw [← h]; simp⟩
  · cases h
theorem putInv_lt {x : KV} {l : List KV} {i : Nat} {P : List KV} (h : PutInv x l i false P) (hi : i < l.length) (hlt : ordK x (l.getD i k0) < 0) : PutInv x l (i + 1) true (P ++ [x] ++ [l.getD i k0]) := by
  rcases h with ⟨h, _⟩ | ⟨_, h, h2⟩
  · cases h
  · refine Or.inl ⟨rfl, ?_⟩
    rw [h2, drop_getD l i hi, h]
    simp only [putK, if_pos hlt]
    simp
theorem putInv_ge {x : KV} {l : List KV} {i : Nat} {P : List KV} (h : PutInv x l i false P) (hi : i < l.length) (hlt : ¬ ordK x (l.getD i k0) < 0) : PutInv x l (i + 1) false (P ++ [l.getD i k0]) := by
  rcases h with ⟨h, _⟩ | ⟨_, h, h2⟩
  · cases h
  · refine Or.inr ⟨rfl, by rw [h, take_succ_getD l k0 i hi], ?_⟩
    rw [h2, drop_getD l i hi, take_succ_getD l k0 i hi]
    simp only [putK, if_neg hlt]
    simp
theorem putInv_end {x : KV} {l : List KV} {f : Bool} {P : List KV} (h : PutInv x l l.length f P) : putK x l = if f = true then P else P ++ [x] := by
  rcases h with ⟨rfl, h⟩ | ⟨rfl, h, h2⟩
  · simpa using h.symm
  · rw [h2, h]; simp [putK]
def Box4r (w0 : World) (p b o : Nat) (v0 v1 v2 v3 : Value) (w : World) : Prop := Below w0.heap.size w0 w ∧ w.cell? ⟨p, 0, none⟩ = some v0 ∧ w.cell? ⟨p, 1, none⟩ = some v1 ∧ w.cell? ⟨b, o, none⟩ = some v2 ∧ w.cell? ⟨b, o + 1, none⟩ = some v3
theorem box4r_carry {w0 w w' : World} {p b o : Nat} {v0 v1 v2 v3 : Value} (h : Box4r w0 p b o v0 v1 v2 v3 w) (hb : Below w.heap.size w w') : Box4r w0 p b o v0 v1 v2 v3 w' :=
  ⟨h.1.trans (hb.mono h.1.size), by rw [hb.cell (p := ⟨p, 0, none⟩) (lt_of_cell h.2.1)]; exact h.2.1, by rw [hb.cell (p := ⟨p, 1, none⟩) (lt_of_cell h.2.1)]; exact h.2.2.1, by rw [hb.cell (p := ⟨b, o, none⟩) (lt_of_cell h.2.2.2.1)]; exact h.2.2.2.1, by rw [hb.cell (p := ⟨b, o + 1, none⟩) (lt_of_cell h.2.2.2.1)]; exact h.2.2.2.2⟩
end Go.Proofs.Ythboiklcjpnhbaa
/- messages in the document: MayReply (by gen/md2.py) -/
namespace Go.Proofs.Ythboiklcjpnhbaa
open Go.RowKit
set_option linter.unusedVariables false
set_option maxRecDepth 20000
theorem cellD {w w' : World} {p o : Nat} {v : Value} (h : w.cell? ⟨p, o, none⟩ = some v) (hb : Below w.heap.size w w') : w'.cell? ⟨p, o, none⟩ = some v := (hb.cell (p := ⟨p, o, none⟩) (lt_of_cell h)).trans h
theorem mr_carry1 {wr w w' : World} {p q a b : Nat} {u v x : Value} (h : Below wr.heap.size wr w ∧ w.cell? ⟨p, 6, none⟩ = some u ∧ w.cell? ⟨q, a, none⟩ = some v ∧ w.cell? ⟨q, b, none⟩ = some x) (hb : Below w.heap.size w w') : Below wr.heap.size wr w' ∧ w'.cell? ⟨p, 6, none⟩ = some u ∧ w'.cell? ⟨q, a, none⟩ = some v ∧ w'.cell? ⟨q, b, none⟩ = some x := ⟨h.1.trans (hb.mono h.1.size), cellD h.2.1 hb, cellD h.2.2.1 hb, cellD h.2.2.2 hb⟩
theorem mr_carry2 {wr w w' : World} {p q a b c d : Nat} {u v x y z : Value} (h : Below wr.heap.size wr w ∧ w.cell? ⟨p, 6, none⟩ = some u ∧ w.cell? ⟨q, a, none⟩ = some v ∧ w.cell? ⟨q, b, none⟩ = some x ∧ w.cell? ⟨q, c, none⟩ = some y ∧ w.cell? ⟨q, d, none⟩ = some z) (hb : Below w.heap.size w w') : Below wr.heap.size wr w' ∧ w'.cell? ⟨p, 6, none⟩ = some u ∧ w'.cell? ⟨q, a, none⟩ = some v ∧ w'.cell? ⟨q, b, none⟩ = some x ∧ w'.cell? ⟨q, c, none⟩ = some y ∧ w'.cell? ⟨q, d, none⟩ = some z := ⟨h.1.trans (hb.mono h.1.size), cellD h.2.1 hb, cellD h.2.2.1 hb, cellD h.2.2.2.1 hb, cellD h.2.2.2.2.1 hb, cellD h.2.2.2.2.2 hb⟩
theorem rlessD_lit (p1 k1 : Int) (p2 k2 : Tx) (c : Bool) (w : World) (ha : p2.size ≤ 1048576) (hb : k2.size ≤ 1048576) (hc : lessK (p1, p2) (k1, k2) = c) :
    Calls Try.prog 72 #[.agg #[.int .i64 p1, .string p2], .agg #[.int .i64 k1, .string k2]] w fun e w' => e = .returned (.bool c) ∧ Below w.heap.size w w' := by subst hc; exact rlessI_any (p1, p2) (k1, k2) w ha hb
set_option maxHeartbeats 12800000 in
set_option maxRecDepth 100000 in
theorem rMayReply (y : RepP) (z : Bool) (w : World) (hh : HoldsK w y.ia y.n y.items) (hs : ∀ k ∈ y.items, k.2.size ≤ 1100) (hn : y.n ≤ 1048576) (h : mayReply y = z) :
    Calls Try.prog 42 #[agReply y] w fun e w' => e = .returned (.bool z) ∧ Below w.heap.size w w' := by
  obtain ⟨y0, y1, y2, y3, y4, y5, ia, n, ic, ks, yf⟩ := y
  simp only at hh hs hn
  have h : (allN [y1, y3, y5] && (inR y0 0 3 && (inR y2 0 5 && (inR y4 1 5 && mayItems ks)))) = z := by
    rw [← h]; unfold mayReply allN
    simp only [List.all_cons, List.all_nil, Bool.and_true]
    ac_rfl
  obtain ⟨z0, h0⟩ : ∃ z, allN [y1, y3, y5] = z := ⟨_, rfl⟩
  obtain ⟨z1, h1⟩ : ∃ z, inR y0 0 3 = z := ⟨_, rfl⟩
  obtain ⟨z2, h2⟩ : ∃ z, inR y2 0 5 = z := ⟨_, rfl⟩
  obtain ⟨z3, h3⟩ : ∃ z, inR y4 1 5 = z := ⟨_, rfl⟩
  obtain ⟨z6, h6⟩ : ∃ z, mayItems ks = z := ⟨_, rfl⟩
  rw [h0, h1, h2, h3, h6] at h
  have C0 := Lib.hid (fun w => rnums_any _ 3 3 [y1, y3, y5] z0 _ (holdsI_lit w [y1, y3, y5] 3 (0, 0)) (by omega) h0)
  have C1 := Lib.hid (fun w => rin_lit y0 0 3 z1 w h1)
  have C2 := Lib.hid (fun w => rin_lit y2 0 5 z2 w h2)
  have C3 := Lib.hid (fun w => rin_lit y4 1 5 z3 w h3)
  obtain ⟨w3, hw3⟩ : ∃ w3, w.alloc (.cells #[.int .i64 y0, .int .i64 y1, .int .i64 y2, .int .i64 y3, .int .i64 y4, .int .i64 y5, .slice ia n ic, .bool yf] 32) = w3 := ⟨_, rfl⟩
  have BX := Lib.hid (show Below w.heap.size w w3 from hw3 ▸ below_one w _)
  have XI := Lib.hid (show ReplyIn w3 w.heap.size ⟨y0, y1, y2, y3, y4, y5, ia, n, ic, ks, yf⟩ from hw3 ▸ ReplyIn_new _ ⟨y0, y1, y2, y3, y4, y5, ia, n, ic, ks, yf⟩ _ _ (0, 0) rfl)
  have HH := Lib.hid hh; have HS := Lib.hid hs; have HL := Lib.hid hh.len
  have H6 := Lib.hid h6
  clear h0 h1 h2 h3 h6 hh hs
  go_enter Try.func42, Try.ntmps42
  go_upto_region 1 with fail
  try rw [hw3]
  clear hw3
  obtain ⟨p, hp⟩ : ∃ p, w.heap.size = p := ⟨_, rfl⟩
  rw [hp] at XI
  try simp only [hp]
  clear hp
  have hX := XI.out
  unfold ReplyIn at hX
  obtain ⟨x0, x1, x2, x3, x4, x5, x6, x7⟩ := hX
  simp only at x0 x1 x2 x3 x4 x5 x6 x7
  go_wp2_with fail
  have hb4 := below_one w3 (.cells #[.int .i64 y1, .int .i64 y3, .int .i64 y5] 3)
  have X4 := Lib.hid (XI.out.below hb4)
  have B4 := Lib.hid (BX.out.trans (hb4.mono BX.out.size))
  have C0' := Lib.hid (C0.out w3)
  clear x0 x1 x2 x3 x4 x5 x6 x7 hb4 C0
  refine C0'.out.mono ?_
  rintro e w4 ⟨rfl, hw4⟩
  simp only [List.map_cons, List.map_nil] at hw4
  rw [hw4] at X4 B4
  clear hw4 C0'
  have hX := X4.out
  unfold ReplyIn at hX
  obtain ⟨x0, x1, x2, x3, x4, x5, x6, x7⟩ := hX
  simp only at x0 x1 x2 x3 x4 x5 x6 x7
  cases z0
  · obtain rfl : z = false := by rw [← h]; simp
    clear h
    go_wp2_with fail
    go_ret
    exact ⟨rfl, B4.out⟩
  cases z1
  · obtain rfl : z = false := by rw [← h]; simp
    clear h
    go_wp2_with fail
    refine (C1.out _).mono ?_
    rintro e w' ⟨rfl, rfl⟩
    go_wp2_with fail
    go_ret
    exact ⟨rfl, B4.out⟩
  cases z2
  · obtain rfl : z = false := by rw [← h]; simp
    clear h
    go_wp2_with fail
    refine (C1.out _).mono ?_
    rintro e w' ⟨rfl, rfl⟩
    go_wp2_with fail
    refine (C2.out _).mono ?_
    rintro e w' ⟨rfl, rfl⟩
    go_wp2_with fail
    go_ret
    exact ⟨rfl, B4.out⟩
  cases z3
  · obtain rfl : z = false := by rw [← h]; simp
    clear h
    go_wp2_with fail
    refine (C1.out _).mono ?_
    rintro e w' ⟨rfl, rfl⟩
    go_wp2_with fail
    refine (C2.out _).mono ?_
    rintro e w' ⟨rfl, rfl⟩
    go_wp2_with fail
    refine (C3.out _).mono ?_
    rintro e w' ⟨rfl, rfl⟩
    go_wp2_with fail
    go_ret
    exact ⟨rfl, B4.out⟩
  obtain rfl : z6 = z := by rw [← h]; rfl
  clear h
  by_cases h5 : n ≤ 5
  case neg =>
    obtain rfl : z6 = false := by
      rw [← H6.out]; unfold mayItems; rw [HL.out, decide_eq_false h5, Bool.false_and]
    have d1 : decide ((n : Int) > 5) = true := decide_eq_true (by omega)
    have d2 : decide (5 < n) = true := decide_eq_true (by omega)
    go_wp2_with fail
    refine (C1.out _).mono ?_
    rintro e w' ⟨rfl, rfl⟩
    go_wp2_with fail
    refine (C2.out _).mono ?_
    rintro e w' ⟨rfl, rfl⟩
    go_wp2_with fail
    refine (C3.out _).mono ?_
    rintro e w' ⟨rfl, rfl⟩
    go_wp2_with fail
    go_ret
    exact ⟨rfl, B4.out⟩
  have HC := Lib.hid (show fitI ks n = z6 from by
    rw [← H6.out]; unfold mayItems; rw [HL.out, decide_eq_true h5, Bool.true_and])
  have d1 : decide ((n : Int) > 5) = false := decide_eq_false (by omega)
  have d2 : decide (5 < n) = false := decide_eq_false (by omega)
  go_wp2_with fail
  refine (C1.out _).mono ?_
  rintro e w' ⟨rfl, rfl⟩
  go_wp2_with fail
  refine (C2.out _).mono ?_
  rintro e w' ⟨rfl, rfl⟩
  go_wp2_with fail
  refine (C3.out _).mono ?_
  rintro e w' ⟨rfl, rfl⟩
  go_wp2_with fail
  have HH4 := Lib.hid (HH.out.below B4.out)
  clear x0 x1 x2 x3 x4 x5 x6 x7 C1 C2 C3 d1 d2
  go_loopw [3] (fun iv wr => ∃ j : Nat, j ≤ n ∧ iv = .int .i64 (j : Int) ∧ Hid (fitI ks j = true) ∧ Hid (Below w4.heap.size w4 wr)) (fun iv _ => n - (intOf iv).toNat)
  case atStart => exact ⟨0, by omega, rfl, Lib.hid rfl, Lib.hid (Below.refl _ _)⟩
  case round =>
    obtain ⟨j, hj, rfl, hF, hB⟩ := hrel
    rename World => wr
    have BW := Lib.hid (B4.out.trans (hB.out.mono B4.out.size))
    have x6 := cellD (show w4.cell? ⟨p, 6, none⟩ = some (.slice ia n ic) from X4.out.2.2.2.2.2.2.1) hB.out
    by_cases hlt : j < n
    · obtain ⟨qb, qo, rfl, hcc⟩ := (HH4.out.below hB.out).at (by omega)
      have hcc2 := Lib.hid hcc
      obtain ⟨x0, x1⟩ := hcc j hlt
      obtain ⟨k, hk⟩ : ∃ k, ks.getD j k0 = k := ⟨_, rfl⟩
      have hks := HS.out k (by rw [← hk]; exact getD_memK ks j (by rw [HL.out]; exact hlt))
      have hst := fitI_succ ks j
      rw [hF.out, Bool.true_and] at hst
      unfold stepI at hst
      rw [hk] at x0 x1 hst
      obtain ⟨k1, k2⟩ := k
      simp only at x0 x1 hks
      obtain ⟨q1, hq1⟩ : ∃ z, mayItem (k1, k2) = z := ⟨_, rfl⟩
      rw [hq1] at hst
      have C7 := Lib.hid (fun w => ritem_lit k1 k2 q1 w (by omega) hq1)
      have n1 : (0 : Int) ≤ (j : Int) := by omega
      have n2 : (j : Int) < (n : Int) := by omega
      have STOP := Lib.hid (fun (h : fitI ks (j + 1) = false) => (show z6 = false from by rw [← HC.out]; exact fitI_stop h n (by omega)))
      have HST := Lib.hid hst
      have HK := Lib.hid hk
      have TD := Lib.hid (show Below wr.heap.size wr wr.drew ∧ wr.drew.cell? ⟨p, 6, none⟩ = some (.slice (some ⟨qb, qo, none⟩) n ic) ∧ wr.drew.cell? ⟨qb, qo + j * 2, none⟩ = some (.int .i64 k1) ∧ wr.drew.cell? ⟨qb, qo + j * 2 + 1, none⟩ = some (.string k2) from ⟨(Below.refl _ _).drew, x6, x0, x1⟩)
      go_upto_region 6 with fail
      clear x6 x0 x1 hq1 hst hk hcc
      cases q1
      · obtain rfl : z6 = false := STOP.out (by rw [HST.out]; rfl)
        clear STOP HST
        refine wp_region_held_drew (S := (fun w' => Below wr.heap.size wr w' ∧ w'.cell? ⟨p, 6, none⟩ = some (.slice (some ⟨qb, qo, none⟩) n ic) ∧ w'.cell? ⟨qb, qo + j * 2, none⟩ = some (.int .i64 k1) ∧ w'.cell? ⟨qb, qo + j * 2 + 1, none⟩ = some (.string k2))) (by kernel_rfl) TD.out (fun hHeld0 => ?_)
        refine wpAnyH_take (i := 0) (oi := { dst := some 44, op := Op.fieldAddr 32 (Operand.tmp 1) 6, type := 0, pos := "ref.go:45", after := #[], guard := none }) (v := ?va0) rfl (by kernel_rfl) (by kernel_rfl) (by kernel_rfl) (fun _ _ _ h => h) (Or.inl ⟨by rfl, ?hya0⟩) (by assumption) ?resta0
        case hya0 => (intro w hSw; (try dsimp only at hSw); go_simp; (try with_reducible rfl))
        try simp only [Act.put, List.setIfInBounds_toArray, List.set_cons_zero, List.set_cons_succ]
        refine wpAnyH_take (i := 1) (oi := { dst := some 45, op := Op.load 30 (Operand.tmp 44), type := 30, pos := "ref.go:45", after := #[{ on := 0, ground := Ground.data }], guard := none }) (v := ?va1) rfl (by kernel_rfl) (by kernel_rfl) (by kernel_rfl) (fun _ _ _ h => h) (Or.inl ⟨by rfl, ?hya1⟩) (by assumption) ?resta1
        case hya1 => (intro w hSw; (try dsimp only at hSw); go_simp; (try with_reducible rfl))
        try simp only [Act.put, List.setIfInBounds_toArray, List.set_cons_zero, List.set_cons_succ]
        refine wpAnyH_take (i := 2) (oi := { dst := some 46, op := Op.move (Operand.tmp 3), type := 3, pos := "ref.go:45", after := #[], guard := none }) (v := ?va2) rfl (by kernel_rfl) (by kernel_rfl) (by kernel_rfl) (fun _ _ _ h => h) (Or.inl ⟨by rfl, ?hya2⟩) (by assumption) ?resta2
        case hya2 => (intro w hSw; (try dsimp only at hSw); go_simp; (try with_reducible rfl))
        try simp only [Act.put, List.setIfInBounds_toArray, List.set_cons_zero, List.set_cons_succ]
        refine wpAnyH_take (i := 3) (oi := { dst := some 47, op := Op.indexAddr 30 (Operand.tmp 45) (Operand.tmp 46), type := 0, pos := "ref.go:45", after := #[{ on := 1, ground := Ground.data }, { on := 2, ground := Ground.data }], guard := none }) (v := ?va3) rfl (by kernel_rfl) (by kernel_rfl) (by kernel_rfl) (fun _ _ _ h => h) (Or.inl ⟨by rfl, ?hya3⟩) (by assumption) ?resta3
        case hya3 => (intro w hSw; (try dsimp only at hSw); go_simp; (try with_reducible rfl))
        try simp only [Act.put, List.setIfInBounds_toArray, List.set_cons_zero, List.set_cons_succ]
        refine wpAnyH_take (i := 4) (oi := { dst := some 48, op := Op.load 27 (Operand.tmp 47), type := 27, pos := "ref.go:45", after := #[{ on := 3, ground := Ground.data }], guard := none }) (v := ?va4) rfl (by kernel_rfl) (by kernel_rfl) (by kernel_rfl) (fun _ _ _ h => h) (Or.inl ⟨by rfl, ?hya4⟩) (by assumption) ?resta4
        case hya4 => (intro w hSw; (try dsimp only at hSw); go_simp; (try with_reducible rfl))
        try simp only [Act.put, List.setIfInBounds_toArray, List.set_cons_zero, List.set_cons_succ]
        refine wpAnyH_ready (rs := [5]) (by kernel_rfl) (by simp) ?_
        refine AllReadyH.cons (o := { dst := some 49, op := Op.call { callee := Callee.value (Operand.func 71), args := #[Operand.tmp 48], argTypes := #[27] }, type := 4, pos := "ref.go:45", after := #[{ on := 4, ground := Ground.data }], guard := none }) rfl (fun K hK => ?_) AllReadyH.nil
        go_simp
        go_at_call 71
        refine (C7.out _).mono ?_
        rintro e' w5 ⟨rfl, hb⟩
        go_wp2_with fail
        refine hK.out _ _ ?_ (fun hHeld1 => ?_)
        · exact mr_carry1 hHeld0 hb
        clear hK K hHeld0 hb
        try simp only [Act.put, List.setIfInBounds_toArray, List.set_cons_zero, List.set_cons_succ]
        refine wpAnyH_take (i := 6) (oi := { dst := some 50, op := Op.unOp UnOp.not 4 (Operand.tmp 49), type := 4, pos := "ref.go:45", after := #[{ on := 5, ground := Ground.data }], guard := none }) (v := ?va6) rfl (by kernel_rfl) (by kernel_rfl) (by kernel_rfl) (fun _ _ _ h => h) (Or.inl ⟨by rfl, ?hya6⟩) (by assumption) ?resta6
        case hya6 => (intro w hSw; (try dsimp only at hSw); go_simp; (try with_reducible rfl))
        try simp only [Act.put, List.setIfInBounds_toArray, List.set_cons_zero, List.set_cons_succ]
        refine wpAnyH_take (i := 7) (oi := { dst := some 51, op := Op.move (Operand.tmp 50), type := 4, pos := "ref.go:45", after := #[{ on := 6, ground := Ground.data }, { on := 5, ground := Ground.chain }], guard := none }) (v := ?va7) rfl (by kernel_rfl) (by kernel_rfl) (by kernel_rfl) (fun _ _ _ h => h) (Or.inl ⟨by rfl, ?hya7⟩) (by assumption) ?resta7
        case hya7 => (intro w hSw; (try dsimp only at hSw); go_simp; (try with_reducible rfl))
        try simp only [Act.put, List.setIfInBounds_toArray, List.set_cons_zero, List.set_cons_succ]
        refine wpAnyH_take (i := 8) (oi := { dst := some 52, op := Op.move (Operand.tmp 3), type := 3, pos := "ref.go:45", after := #[{ on := 7, ground := Ground.guard }], guard := some (7, false) }) rfl (by kernel_rfl) (by kernel_rfl) (by kernel_rfl) (fun _ _ _ h => h) (Or.inr ⟨by rfl, rfl⟩) (by assumption) ?_
        try simp only [Act.put, List.setIfInBounds_toArray, List.set_cons_zero, List.set_cons_succ]
        refine wpAnyH_take (i := 9) (oi := { dst := some 53, op := Op.binOp BinOp.gtr 3 (Operand.tmp 52) (Operand.const (Value.int IntKind.i64 0)) 3, type := 4, pos := "ref.go:45", after := #[{ on := 8, ground := Ground.data }, { on := 7, ground := Ground.guard }], guard := some (7, false) }) rfl (by kernel_rfl) (by kernel_rfl) (by kernel_rfl) (fun _ _ _ h => h) (Or.inr ⟨by rfl, rfl⟩) (by assumption) ?_
        try simp only [Act.put, List.setIfInBounds_toArray, List.set_cons_zero, List.set_cons_succ]
        refine wpAnyH_take (i := 10) (oi := { dst := some 54, op := Op.move (Operand.tmp 53), type := 4, pos := "ref.go:45", after := #[{ on := 9, ground := Ground.data }, { on := 7, ground := Ground.chain }, { on := 7, ground := Ground.guard }], guard := some (7, false) }) rfl (by kernel_rfl) (by kernel_rfl) (by kernel_rfl) (fun _ _ _ h => h) (Or.inr ⟨by rfl, rfl⟩) (by assumption) ?_
        try simp only [Act.put, List.setIfInBounds_toArray, List.set_cons_zero, List.set_cons_succ]
        refine wpAnyH_take (i := 11) (oi := { dst := some 55, op := Op.fieldAddr 32 (Operand.tmp 1) 6, type := 0, pos := "ref.go:45", after := #[{ on := 10, ground := Ground.guard }], guard := some (10, true) }) rfl (by kernel_rfl) (by kernel_rfl) (by kernel_rfl) (fun _ _ _ h => h) (Or.inr ⟨by rfl, rfl⟩) (by assumption) ?_
        try simp only [Act.put, List.setIfInBounds_toArray, List.set_cons_zero, List.set_cons_succ]
        refine wpAnyH_take (i := 12) (oi := { dst := some 56, op := Op.load 30 (Operand.tmp 55), type := 30, pos := "ref.go:45", after := #[{ on := 11, ground := Ground.data }, { on := 10, ground := Ground.guard }], guard := some (10, true) }) rfl (by kernel_rfl) (by kernel_rfl) (by kernel_rfl) (fun _ _ _ h => h) (Or.inr ⟨by rfl, rfl⟩) (by assumption) ?_
        try simp only [Act.put, List.setIfInBounds_toArray, List.set_cons_zero, List.set_cons_succ]
        refine wpAnyH_take (i := 13) (oi := { dst := some 57, op := Op.move (Operand.tmp 3), type := 3, pos := "ref.go:45", after := #[{ on := 10, ground := Ground.guard }], guard := some (10, true) }) rfl (by kernel_rfl) (by kernel_rfl) (by kernel_rfl) (fun _ _ _ h => h) (Or.inr ⟨by rfl, rfl⟩) (by assumption) ?_
        try simp only [Act.put, List.setIfInBounds_toArray, List.set_cons_zero, List.set_cons_succ]
        refine wpAnyH_take (i := 14) (oi := { dst := some 58, op := Op.binOp BinOp.sub 3 (Operand.tmp 57) (Operand.const (Value.int IntKind.i64 1)) 3, type := 3, pos := "ref.go:45", after := #[{ on := 13, ground := Ground.data }, { on := 10, ground := Ground.guard }], guard := some (10, true) }) rfl (by kernel_rfl) (by kernel_rfl) (by kernel_rfl) (fun _ _ _ h => h) (Or.inr ⟨by rfl, rfl⟩) (by assumption) ?_
        try simp only [Act.put, List.setIfInBounds_toArray, List.set_cons_zero, List.set_cons_succ]
        refine wpAnyH_take (i := 15) (oi := { dst := some 59, op := Op.indexAddr 30 (Operand.tmp 56) (Operand.tmp 58), type := 0, pos := "ref.go:45", after := #[{ on := 12, ground := Ground.data }, { on := 14, ground := Ground.data }, { on := 10, ground := Ground.guard }], guard := some (10, true) }) rfl (by kernel_rfl) (by kernel_rfl) (by kernel_rfl) (fun _ _ _ h => h) (Or.inr ⟨by rfl, rfl⟩) (by assumption) ?_
        try simp only [Act.put, List.setIfInBounds_toArray, List.set_cons_zero, List.set_cons_succ]
        refine wpAnyH_take (i := 16) (oi := { dst := some 60, op := Op.load 27 (Operand.tmp 59), type := 27, pos := "ref.go:45", after := #[{ on := 15, ground := Ground.data }, { on := 10, ground := Ground.guard }], guard := some (10, true) }) rfl (by kernel_rfl) (by kernel_rfl) (by kernel_rfl) (fun _ _ _ h => h) (Or.inr ⟨by rfl, rfl⟩) (by assumption) ?_
        try simp only [Act.put, List.setIfInBounds_toArray, List.set_cons_zero, List.set_cons_succ]
        refine wpAnyH_take (i := 17) (oi := { dst := some 61, op := Op.fieldAddr 32 (Operand.tmp 1) 6, type := 0, pos := "ref.go:45", after := #[{ on := 10, ground := Ground.guard }], guard := some (10, true) }) rfl (by kernel_rfl) (by kernel_rfl) (by kernel_rfl) (fun _ _ _ h => h) (Or.inr ⟨by rfl, rfl⟩) (by assumption) ?_
        try simp only [Act.put, List.setIfInBounds_toArray, List.set_cons_zero, List.set_cons_succ]
        refine wpAnyH_take (i := 18) (oi := { dst := some 62, op := Op.load 30 (Operand.tmp 61), type := 30, pos := "ref.go:45", after := #[{ on := 17, ground := Ground.data }, { on := 10, ground := Ground.guard }], guard := some (10, true) }) rfl (by kernel_rfl) (by kernel_rfl) (by kernel_rfl) (fun _ _ _ h => h) (Or.inr ⟨by rfl, rfl⟩) (by assumption) ?_
        try simp only [Act.put, List.setIfInBounds_toArray, List.set_cons_zero, List.set_cons_succ]
        refine wpAnyH_take (i := 19) (oi := { dst := some 63, op := Op.move (Operand.tmp 3), type := 3, pos := "ref.go:45", after := #[{ on := 10, ground := Ground.guard }], guard := some (10, true) }) rfl (by kernel_rfl) (by kernel_rfl) (by kernel_rfl) (fun _ _ _ h => h) (Or.inr ⟨by rfl, rfl⟩) (by assumption) ?_
        try simp only [Act.put, List.setIfInBounds_toArray, List.set_cons_zero, List.set_cons_succ]
        refine wpAnyH_take (i := 20) (oi := { dst := some 64, op := Op.indexAddr 30 (Operand.tmp 62) (Operand.tmp 63), type := 0, pos := "ref.go:45", after := #[{ on := 18, ground := Ground.data }, { on := 19, ground := Ground.data }, { on := 10, ground := Ground.guard }], guard := some (10, true) }) rfl (by kernel_rfl) (by kernel_rfl) (by kernel_rfl) (fun _ _ _ h => h) (Or.inr ⟨by rfl, rfl⟩) (by assumption) ?_
        try simp only [Act.put, List.setIfInBounds_toArray, List.set_cons_zero, List.set_cons_succ]
        refine wpAnyH_take (i := 21) (oi := { dst := some 65, op := Op.load 27 (Operand.tmp 64), type := 27, pos := "ref.go:45", after := #[{ on := 20, ground := Ground.data }, { on := 10, ground := Ground.guard }], guard := some (10, true) }) rfl (by kernel_rfl) (by kernel_rfl) (by kernel_rfl) (fun _ _ _ h => h) (Or.inr ⟨by rfl, rfl⟩) (by assumption) ?_
        try simp only [Act.put, List.setIfInBounds_toArray, List.set_cons_zero, List.set_cons_succ]
        refine wpAnyH_take (i := 22) (oi := { dst := some 66, op := Op.call { callee := Callee.value (Operand.func 72), args := #[Operand.tmp 60, Operand.tmp 65], argTypes := #[27, 27] }, type := 4, pos := "ref.go:45", after := #[{ on := 16, ground := Ground.data }, { on := 21, ground := Ground.data }, { on := 10, ground := Ground.chain }, { on := 10, ground := Ground.guard }], guard := some (10, true) }) rfl (by kernel_rfl) (by kernel_rfl) (by kernel_rfl) (fun _ _ _ h => h) (Or.inr ⟨by rfl, rfl⟩) (by assumption) ?_
        try simp only [Act.put, List.setIfInBounds_toArray, List.set_cons_zero, List.set_cons_succ]
        refine wpAnyH_take (i := 23) (oi := { dst := some 67, op := Op.unOp UnOp.not 4 (Operand.tmp 66), type := 4, pos := "ref.go:45", after := #[{ on := 22, ground := Ground.data }, { on := 10, ground := Ground.guard }], guard := some (10, true) }) rfl (by kernel_rfl) (by kernel_rfl) (by kernel_rfl) (fun _ _ _ h => h) (Or.inr ⟨by rfl, rfl⟩) (by assumption) ?_
        try simp only [Act.put, List.setIfInBounds_toArray, List.set_cons_zero, List.set_cons_succ]
        refine wpAnyH_take (i := 24) (oi := { dst := some 68, op := Op.pick (Operand.tmp 54) (Operand.tmp 67) (Operand.const (Value.bool false)), type := 4, pos := "ref.go:45", after := #[{ on := 10, ground := Ground.data }, { on := 23, ground := Ground.data }, { on := 7, ground := Ground.guard }], guard := some (7, false) }) rfl (by kernel_rfl) (by kernel_rfl) (by kernel_rfl) (fun _ _ _ h => h) (Or.inr ⟨by rfl, rfl⟩) (by assumption) ?_
        try simp only [Act.put, List.setIfInBounds_toArray, List.set_cons_zero, List.set_cons_succ]
        refine wpAnyH_take (i := 25) (oi := { dst := some 69, op := Op.pick (Operand.tmp 51) (Operand.const (Value.bool true)) (Operand.tmp 68), type := 4, pos := "ref.go:45", after := #[{ on := 7, ground := Ground.data }, { on := 24, ground := Ground.data }], guard := none }) (v := ?va25) rfl (by kernel_rfl) (by kernel_rfl) (by kernel_rfl) (fun _ _ _ h => h) (Or.inl ⟨by rfl, ?hya25⟩) (by assumption) ?resta25
        case hya25 => (intro w hSw; (try dsimp only at hSw); go_simp; (try with_reducible rfl))
        try simp only [Act.put, List.setIfInBounds_toArray, List.set_cons_zero, List.set_cons_succ]
        refine wpAnyH_done (by kernel_rfl) ?_ _
        have BF := Lib.hid (BW.out.trans (hHeld1.1.mono BW.out.size))
        clear hHeld1
        go_wp2_with fail
        go_ret
        exact ⟨rfl, BF.out⟩
      · rcases Nat.eq_zero_or_pos j with rfl | hj0
        · have FN := Lib.hid (show fitI ks (0 + 1) = true from by rw [HST.out]; rfl)
          clear STOP HST
          have TD0 := Lib.hid (show Below wr.heap.size wr wr.drew ∧ wr.drew.cell? ⟨p, 6, none⟩ = some (.slice (some ⟨qb, qo, none⟩) n ic) ∧ wr.drew.cell? ⟨qb, qo, none⟩ = some (.int .i64 k1) ∧ wr.drew.cell? ⟨qb, qo + 1, none⟩ = some (.string k2) from TD.out)
          refine wp_region_held_drew (S := (fun w' => Below wr.heap.size wr w' ∧ w'.cell? ⟨p, 6, none⟩ = some (.slice (some ⟨qb, qo, none⟩) n ic) ∧ w'.cell? ⟨qb, qo, none⟩ = some (.int .i64 k1) ∧ w'.cell? ⟨qb, qo + 1, none⟩ = some (.string k2))) (by kernel_rfl) TD0.out (fun hHeld0 => ?_)
          refine wpAnyH_take (i := 0) (oi := { dst := some 44, op := Op.fieldAddr 32 (Operand.tmp 1) 6, type := 0, pos := "ref.go:45", after := #[], guard := none }) (v := ?vb0) rfl (by kernel_rfl) (by kernel_rfl) (by kernel_rfl) (fun _ _ _ h => h) (Or.inl ⟨by rfl, ?hyb0⟩) (by assumption) ?restb0
          case hyb0 => (intro w hSw; (try dsimp only at hSw); go_simp; (try with_reducible rfl))
          try simp only [Act.put, List.setIfInBounds_toArray, List.set_cons_zero, List.set_cons_succ]
          refine wpAnyH_take (i := 1) (oi := { dst := some 45, op := Op.load 30 (Operand.tmp 44), type := 30, pos := "ref.go:45", after := #[{ on := 0, ground := Ground.data }], guard := none }) (v := ?vb1) rfl (by kernel_rfl) (by kernel_rfl) (by kernel_rfl) (fun _ _ _ h => h) (Or.inl ⟨by rfl, ?hyb1⟩) (by assumption) ?restb1
          case hyb1 => (intro w hSw; (try dsimp only at hSw); go_simp; (try with_reducible rfl))
          try simp only [Act.put, List.setIfInBounds_toArray, List.set_cons_zero, List.set_cons_succ]
          refine wpAnyH_take (i := 2) (oi := { dst := some 46, op := Op.move (Operand.tmp 3), type := 3, pos := "ref.go:45", after := #[], guard := none }) (v := ?vb2) rfl (by kernel_rfl) (by kernel_rfl) (by kernel_rfl) (fun _ _ _ h => h) (Or.inl ⟨by rfl, ?hyb2⟩) (by assumption) ?restb2
          case hyb2 => (intro w hSw; (try dsimp only at hSw); go_simp; (try with_reducible rfl))
          try simp only [Act.put, List.setIfInBounds_toArray, List.set_cons_zero, List.set_cons_succ]
          refine wpAnyH_take (i := 3) (oi := { dst := some 47, op := Op.indexAddr 30 (Operand.tmp 45) (Operand.tmp 46), type := 0, pos := "ref.go:45", after := #[{ on := 1, ground := Ground.data }, { on := 2, ground := Ground.data }], guard := none }) (v := ?vb3) rfl (by kernel_rfl) (by kernel_rfl) (by kernel_rfl) (fun _ _ _ h => h) (Or.inl ⟨by rfl, ?hyb3⟩) (by assumption) ?restb3
          case hyb3 => (intro w hSw; (try dsimp only at hSw); go_simp; (try with_reducible rfl))
          try simp only [Act.put, List.setIfInBounds_toArray, List.set_cons_zero, List.set_cons_succ]
          refine wpAnyH_take (i := 4) (oi := { dst := some 48, op := Op.load 27 (Operand.tmp 47), type := 27, pos := "ref.go:45", after := #[{ on := 3, ground := Ground.data }], guard := none }) (v := ?vb4) rfl (by kernel_rfl) (by kernel_rfl) (by kernel_rfl) (fun _ _ _ h => h) (Or.inl ⟨by rfl, ?hyb4⟩) (by assumption) ?restb4
          case hyb4 => (intro w hSw; (try dsimp only at hSw); go_simp; (try with_reducible rfl))
          try simp only [Act.put, List.setIfInBounds_toArray, List.set_cons_zero, List.set_cons_succ]
          refine wpAnyH_ready (rs := [5]) (by kernel_rfl) (by simp) ?_
          refine AllReadyH.cons (o := { dst := some 49, op := Op.call { callee := Callee.value (Operand.func 71), args := #[Operand.tmp 48], argTypes := #[27] }, type := 4, pos := "ref.go:45", after := #[{ on := 4, ground := Ground.data }], guard := none }) rfl (fun K hK => ?_) AllReadyH.nil
          go_simp
          go_at_call 71
          refine (C7.out _).mono ?_
          rintro e' w5 ⟨rfl, hb⟩
          go_wp2_with fail
          refine hK.out _ _ ?_ (fun hHeld1 => ?_)
          · exact mr_carry1 hHeld0 hb
          clear hK K hHeld0 hb
          try simp only [Act.put, List.setIfInBounds_toArray, List.set_cons_zero, List.set_cons_succ]
          refine wpAnyH_take (i := 6) (oi := { dst := some 50, op := Op.unOp UnOp.not 4 (Operand.tmp 49), type := 4, pos := "ref.go:45", after := #[{ on := 5, ground := Ground.data }], guard := none }) (v := ?vb6) rfl (by kernel_rfl) (by kernel_rfl) (by kernel_rfl) (fun _ _ _ h => h) (Or.inl ⟨by rfl, ?hyb6⟩) (by assumption) ?restb6
          case hyb6 => (intro w hSw; (try dsimp only at hSw); go_simp; (try with_reducible rfl))
          try simp only [Act.put, List.setIfInBounds_toArray, List.set_cons_zero, List.set_cons_succ]
          refine wpAnyH_take (i := 7) (oi := { dst := some 51, op := Op.move (Operand.tmp 50), type := 4, pos := "ref.go:45", after := #[{ on := 6, ground := Ground.data }, { on := 5, ground := Ground.chain }], guard := none }) (v := ?vb7) rfl (by kernel_rfl) (by kernel_rfl) (by kernel_rfl) (fun _ _ _ h => h) (Or.inl ⟨by rfl, ?hyb7⟩) (by assumption) ?restb7
          case hyb7 => (intro w hSw; (try dsimp only at hSw); go_simp; (try with_reducible rfl))
          try simp only [Act.put, List.setIfInBounds_toArray, List.set_cons_zero, List.set_cons_succ]
          refine wpAnyH_take (i := 8) (oi := { dst := some 52, op := Op.move (Operand.tmp 3), type := 3, pos := "ref.go:45", after := #[{ on := 7, ground := Ground.guard }], guard := some (7, false) }) (v := ?vb8) rfl (by kernel_rfl) (by kernel_rfl) (by kernel_rfl) (fun _ _ _ h => h) (Or.inl ⟨by rfl, ?hyb8⟩) (by assumption) ?restb8
          case hyb8 => (intro w hSw; (try dsimp only at hSw); go_simp; (try with_reducible rfl))
          try simp only [Act.put, List.setIfInBounds_toArray, List.set_cons_zero, List.set_cons_succ]
          refine wpAnyH_take (i := 9) (oi := { dst := some 53, op := Op.binOp BinOp.gtr 3 (Operand.tmp 52) (Operand.const (Value.int IntKind.i64 0)) 3, type := 4, pos := "ref.go:45", after := #[{ on := 8, ground := Ground.data }, { on := 7, ground := Ground.guard }], guard := some (7, false) }) (v := ?vb9) rfl (by kernel_rfl) (by kernel_rfl) (by kernel_rfl) (fun _ _ _ h => h) (Or.inl ⟨by rfl, ?hyb9⟩) (by assumption) ?restb9
          case hyb9 => (intro w hSw; (try dsimp only at hSw); go_simp; (try with_reducible rfl))
          try simp only [Act.put, List.setIfInBounds_toArray, List.set_cons_zero, List.set_cons_succ]
          refine wpAnyH_take (i := 10) (oi := { dst := some 54, op := Op.move (Operand.tmp 53), type := 4, pos := "ref.go:45", after := #[{ on := 9, ground := Ground.data }, { on := 7, ground := Ground.chain }, { on := 7, ground := Ground.guard }], guard := some (7, false) }) (v := ?vb10) rfl (by kernel_rfl) (by kernel_rfl) (by kernel_rfl) (fun _ _ _ h => h) (Or.inl ⟨by rfl, ?hyb10⟩) (by assumption) ?restb10
          case hyb10 => (intro w hSw; (try dsimp only at hSw); go_simp; (try with_reducible rfl))
          try simp only [Act.put, List.setIfInBounds_toArray, List.set_cons_zero, List.set_cons_succ]
          refine wpAnyH_take (i := 11) (oi := { dst := some 55, op := Op.fieldAddr 32 (Operand.tmp 1) 6, type := 0, pos := "ref.go:45", after := #[{ on := 10, ground := Ground.guard }], guard := some (10, true) }) rfl (by kernel_rfl) (by kernel_rfl) (by kernel_rfl) (fun _ _ _ h => h) (Or.inr ⟨by rfl, rfl⟩) (by assumption) ?_
          try simp only [Act.put, List.setIfInBounds_toArray, List.set_cons_zero, List.set_cons_succ]
          refine wpAnyH_take (i := 12) (oi := { dst := some 56, op := Op.load 30 (Operand.tmp 55), type := 30, pos := "ref.go:45", after := #[{ on := 11, ground := Ground.data }, { on := 10, ground := Ground.guard }], guard := some (10, true) }) rfl (by kernel_rfl) (by kernel_rfl) (by kernel_rfl) (fun _ _ _ h => h) (Or.inr ⟨by rfl, rfl⟩) (by assumption) ?_
          try simp only [Act.put, List.setIfInBounds_toArray, List.set_cons_zero, List.set_cons_succ]
          refine wpAnyH_take (i := 13) (oi := { dst := some 57, op := Op.move (Operand.tmp 3), type := 3, pos := "ref.go:45", after := #[{ on := 10, ground := Ground.guard }], guard := some (10, true) }) rfl (by kernel_rfl) (by kernel_rfl) (by kernel_rfl) (fun _ _ _ h => h) (Or.inr ⟨by rfl, rfl⟩) (by assumption) ?_
          try simp only [Act.put, List.setIfInBounds_toArray, List.set_cons_zero, List.set_cons_succ]
          refine wpAnyH_take (i := 14) (oi := { dst := some 58, op := Op.binOp BinOp.sub 3 (Operand.tmp 57) (Operand.const (Value.int IntKind.i64 1)) 3, type := 3, pos := "ref.go:45", after := #[{ on := 13, ground := Ground.data }, { on := 10, ground := Ground.guard }], guard := some (10, true) }) rfl (by kernel_rfl) (by kernel_rfl) (by kernel_rfl) (fun _ _ _ h => h) (Or.inr ⟨by rfl, rfl⟩) (by assumption) ?_
          try simp only [Act.put, List.setIfInBounds_toArray, List.set_cons_zero, List.set_cons_succ]
          refine wpAnyH_take (i := 15) (oi := { dst := some 59, op := Op.indexAddr 30 (Operand.tmp 56) (Operand.tmp 58), type := 0, pos := "ref.go:45", after := #[{ on := 12, ground := Ground.data }, { on := 14, ground := Ground.data }, { on := 10, ground := Ground.guard }], guard := some (10, true) }) rfl (by kernel_rfl) (by kernel_rfl) (by kernel_rfl) (fun _ _ _ h => h) (Or.inr ⟨by rfl, rfl⟩) (by assumption) ?_
          try simp only [Act.put, List.setIfInBounds_toArray, List.set_cons_zero, List.set_cons_succ]
          refine wpAnyH_take (i := 16) (oi := { dst := some 60, op := Op.load 27 (Operand.tmp 59), type := 27, pos := "ref.go:45", after := #[{ on := 15, ground := Ground.data }, { on := 10, ground := Ground.guard }], guard := some (10, true) }) rfl (by kernel_rfl) (by kernel_rfl) (by kernel_rfl) (fun _ _ _ h => h) (Or.inr ⟨by rfl, rfl⟩) (by assumption) ?_
          try simp only [Act.put, List.setIfInBounds_toArray, List.set_cons_zero, List.set_cons_succ]
          refine wpAnyH_take (i := 17) (oi := { dst := some 61, op := Op.fieldAddr 32 (Operand.tmp 1) 6, type := 0, pos := "ref.go:45", after := #[{ on := 10, ground := Ground.guard }], guard := some (10, true) }) rfl (by kernel_rfl) (by kernel_rfl) (by kernel_rfl) (fun _ _ _ h => h) (Or.inr ⟨by rfl, rfl⟩) (by assumption) ?_
          try simp only [Act.put, List.setIfInBounds_toArray, List.set_cons_zero, List.set_cons_succ]
          refine wpAnyH_take (i := 18) (oi := { dst := some 62, op := Op.load 30 (Operand.tmp 61), type := 30, pos := "ref.go:45", after := #[{ on := 17, ground := Ground.data }, { on := 10, ground := Ground.guard }], guard := some (10, true) }) rfl (by kernel_rfl) (by kernel_rfl) (by kernel_rfl) (fun _ _ _ h => h) (Or.inr ⟨by rfl, rfl⟩) (by assumption) ?_
          try simp only [Act.put, List.setIfInBounds_toArray, List.set_cons_zero, List.set_cons_succ]
          refine wpAnyH_take (i := 19) (oi := { dst := some 63, op := Op.move (Operand.tmp 3), type := 3, pos := "ref.go:45", after := #[{ on := 10, ground := Ground.guard }], guard := some (10, true) }) rfl (by kernel_rfl) (by kernel_rfl) (by kernel_rfl) (fun _ _ _ h => h) (Or.inr ⟨by rfl, rfl⟩) (by assumption) ?_
          try simp only [Act.put, List.setIfInBounds_toArray, List.set_cons_zero, List.set_cons_succ]
          refine wpAnyH_take (i := 20) (oi := { dst := some 64, op := Op.indexAddr 30 (Operand.tmp 62) (Operand.tmp 63), type := 0, pos := "ref.go:45", after := #[{ on := 18, ground := Ground.data }, { on := 19, ground := Ground.data }, { on := 10, ground := Ground.guard }], guard := some (10, true) }) rfl (by kernel_rfl) (by kernel_rfl) (by kernel_rfl) (fun _ _ _ h => h) (Or.inr ⟨by rfl, rfl⟩) (by assumption) ?_
          try simp only [Act.put, List.setIfInBounds_toArray, List.set_cons_zero, List.set_cons_succ]
          refine wpAnyH_take (i := 21) (oi := { dst := some 65, op := Op.load 27 (Operand.tmp 64), type := 27, pos := "ref.go:45", after := #[{ on := 20, ground := Ground.data }, { on := 10, ground := Ground.guard }], guard := some (10, true) }) rfl (by kernel_rfl) (by kernel_rfl) (by kernel_rfl) (fun _ _ _ h => h) (Or.inr ⟨by rfl, rfl⟩) (by assumption) ?_
          try simp only [Act.put, List.setIfInBounds_toArray, List.set_cons_zero, List.set_cons_succ]
          refine wpAnyH_take (i := 22) (oi := { dst := some 66, op := Op.call { callee := Callee.value (Operand.func 72), args := #[Operand.tmp 60, Operand.tmp 65], argTypes := #[27, 27] }, type := 4, pos := "ref.go:45", after := #[{ on := 16, ground := Ground.data }, { on := 21, ground := Ground.data }, { on := 10, ground := Ground.chain }, { on := 10, ground := Ground.guard }], guard := some (10, true) }) rfl (by kernel_rfl) (by kernel_rfl) (by kernel_rfl) (fun _ _ _ h => h) (Or.inr ⟨by rfl, rfl⟩) (by assumption) ?_
          try simp only [Act.put, List.setIfInBounds_toArray, List.set_cons_zero, List.set_cons_succ]
          refine wpAnyH_take (i := 23) (oi := { dst := some 67, op := Op.unOp UnOp.not 4 (Operand.tmp 66), type := 4, pos := "ref.go:45", after := #[{ on := 22, ground := Ground.data }, { on := 10, ground := Ground.guard }], guard := some (10, true) }) rfl (by kernel_rfl) (by kernel_rfl) (by kernel_rfl) (fun _ _ _ h => h) (Or.inr ⟨by rfl, rfl⟩) (by assumption) ?_
          try simp only [Act.put, List.setIfInBounds_toArray, List.set_cons_zero, List.set_cons_succ]
          refine wpAnyH_take (i := 24) (oi := { dst := some 68, op := Op.pick (Operand.tmp 54) (Operand.tmp 67) (Operand.const (Value.bool false)), type := 4, pos := "ref.go:45", after := #[{ on := 10, ground := Ground.data }, { on := 23, ground := Ground.data }, { on := 7, ground := Ground.guard }], guard := some (7, false) }) (v := ?vb24) rfl (by kernel_rfl) (by kernel_rfl) (by kernel_rfl) (fun _ _ _ h => h) (Or.inl ⟨by rfl, ?hyb24⟩) (by assumption) ?restb24
          case hyb24 => (intro w hSw; (try dsimp only at hSw); go_simp; (try with_reducible rfl))
          try simp only [Act.put, List.setIfInBounds_toArray, List.set_cons_zero, List.set_cons_succ]
          refine wpAnyH_take (i := 25) (oi := { dst := some 69, op := Op.pick (Operand.tmp 51) (Operand.const (Value.bool true)) (Operand.tmp 68), type := 4, pos := "ref.go:45", after := #[{ on := 7, ground := Ground.data }, { on := 24, ground := Ground.data }], guard := none }) (v := ?vb25) rfl (by kernel_rfl) (by kernel_rfl) (by kernel_rfl) (fun _ _ _ h => h) (Or.inl ⟨by rfl, ?hyb25⟩) (by assumption) ?restb25
          case hyb25 => (intro w hSw; (try dsimp only at hSw); go_simp; (try with_reducible rfl))
          try simp only [Act.put, List.setIfInBounds_toArray, List.set_cons_zero, List.set_cons_succ]
          refine wpAnyH_done (by kernel_rfl) ?_ _
          have BF := Lib.hid (hB.out.trans (hHeld1.1.mono hB.out.size))
          clear hHeld1
          go_wp2_with fail
          go_roundw
          case rel => exact ⟨1, by omega, by go_num, FN, BF⟩
          case measure => simp [intOf] <;> omega
        · obtain ⟨j', hj'⟩ : ∃ j', j - 1 = j' := ⟨_, rfl⟩
          obtain ⟨v0, v1⟩ := hcc2.out j' (by omega)
          obtain ⟨kp, hkp⟩ : ∃ kp, ks.getD j' k0 = kp := ⟨_, rfl⟩
          have hkps := HS.out kp (by rw [← hkp]; exact getD_memK ks j' (by rw [HL.out]; omega))
          rw [hkp] at v0 v1
          obtain ⟨p1, p2⟩ := kp
          simp only at v0 v1 hkps
          obtain ⟨zl, hzl⟩ : ∃ z, lessK (p1, p2) (k1, k2) = z := ⟨_, rfl⟩
          have CL := Lib.hid (fun w => rlessD_lit p1 k1 p2 k2 zl w (by omega) (by omega) hzl)
          have HST2 := Lib.hid (show fitI ks (j + 1) = zl from by rw [HST.out, hj', hkp, hzl, decide_eq_false (by omega)]; rfl)
          have TE := Lib.hid (show Below wr.heap.size wr wr.drew ∧ wr.drew.cell? ⟨p, 6, none⟩ = some (.slice (some ⟨qb, qo, none⟩) n ic) ∧ wr.drew.cell? ⟨qb, qo + j * 2, none⟩ = some (.int .i64 k1) ∧ wr.drew.cell? ⟨qb, qo + j * 2 + 1, none⟩ = some (.string k2) ∧ wr.drew.cell? ⟨qb, qo + j' * 2, none⟩ = some (.int .i64 p1) ∧ wr.drew.cell? ⟨qb, qo + j' * 2 + 1, none⟩ = some (.string p2) from ⟨TD.out.1, TD.out.2.1, TD.out.2.2.1, TD.out.2.2.2, v0, v1⟩)
          have e1 : (j : Int) - 1 = (j' : Int) := by omega
          have w1e : IntKind.i64.wrap (j' : Int) = (j' : Int) := IntWalk.i64_in _ (by omega)
          have g1 : decide ((j : Int) > 0) = true := decide_eq_true (by omega)
          have g2 : decide (0 < j) = true := decide_eq_true (by omega)
          have i1 : (0 : Int) ≤ (j' : Int) := by omega
          have i2 : (j' : Int) < (n : Int) := by omega
          have i3 : j' < n := by omega
          have i4 : (0 : Int) ≤ (j : Int) - 1 := by omega
          have i5 : (j : Int) - 1 < (n : Int) := by omega
          clear v0 v1 hkp hzl HST hj0 hj'
          refine wp_region_held_drew (S := (fun w' => Below wr.heap.size wr w' ∧ w'.cell? ⟨p, 6, none⟩ = some (.slice (some ⟨qb, qo, none⟩) n ic) ∧ w'.cell? ⟨qb, qo + j * 2, none⟩ = some (.int .i64 k1) ∧ w'.cell? ⟨qb, qo + j * 2 + 1, none⟩ = some (.string k2) ∧ w'.cell? ⟨qb, qo + j' * 2, none⟩ = some (.int .i64 p1) ∧ w'.cell? ⟨qb, qo + j' * 2 + 1, none⟩ = some (.string p2))) (by kernel_rfl) TE.out (fun hHeld0 => ?_)
          refine wpAnyH_take (i := 0) (oi := { dst := some 44, op := Op.fieldAddr 32 (Operand.tmp 1) 6, type := 0, pos := "ref.go:45", after := #[], guard := none }) (v := ?vc0) rfl (by kernel_rfl) (by kernel_rfl) (by kernel_rfl) (fun _ _ _ h => h) (Or.inl ⟨by rfl, ?hyc0⟩) (by assumption) ?restc0
          case hyc0 => (intro w hSw; (try dsimp only at hSw); go_simp; (try with_reducible rfl))
          try simp only [Act.put, List.setIfInBounds_toArray, List.set_cons_zero, List.set_cons_succ]
          refine wpAnyH_take (i := 1) (oi := { dst := some 45, op := Op.load 30 (Operand.tmp 44), type := 30, pos := "ref.go:45", after := #[{ on := 0, ground := Ground.data }], guard := none }) (v := ?vc1) rfl (by kernel_rfl) (by kernel_rfl) (by kernel_rfl) (fun _ _ _ h => h) (Or.inl ⟨by rfl, ?hyc1⟩) (by assumption) ?restc1
          case hyc1 => (intro w hSw; (try dsimp only at hSw); go_simp; (try with_reducible rfl))
          try simp only [Act.put, List.setIfInBounds_toArray, List.set_cons_zero, List.set_cons_succ]
          refine wpAnyH_take (i := 2) (oi := { dst := some 46, op := Op.move (Operand.tmp 3), type := 3, pos := "ref.go:45", after := #[], guard := none }) (v := ?vc2) rfl (by kernel_rfl) (by kernel_rfl) (by kernel_rfl) (fun _ _ _ h => h) (Or.inl ⟨by rfl, ?hyc2⟩) (by assumption) ?restc2
          case hyc2 => (intro w hSw; (try dsimp only at hSw); go_simp; (try with_reducible rfl))
          try simp only [Act.put, List.setIfInBounds_toArray, List.set_cons_zero, List.set_cons_succ]
          refine wpAnyH_take (i := 3) (oi := { dst := some 47, op := Op.indexAddr 30 (Operand.tmp 45) (Operand.tmp 46), type := 0, pos := "ref.go:45", after := #[{ on := 1, ground := Ground.data }, { on := 2, ground := Ground.data }], guard := none }) (v := ?vc3) rfl (by kernel_rfl) (by kernel_rfl) (by kernel_rfl) (fun _ _ _ h => h) (Or.inl ⟨by rfl, ?hyc3⟩) (by assumption) ?restc3
          case hyc3 => (intro w hSw; (try dsimp only at hSw); go_simp; (try with_reducible rfl))
          try simp only [Act.put, List.setIfInBounds_toArray, List.set_cons_zero, List.set_cons_succ]
          refine wpAnyH_take (i := 4) (oi := { dst := some 48, op := Op.load 27 (Operand.tmp 47), type := 27, pos := "ref.go:45", after := #[{ on := 3, ground := Ground.data }], guard := none }) (v := ?vc4) rfl (by kernel_rfl) (by kernel_rfl) (by kernel_rfl) (fun _ _ _ h => h) (Or.inl ⟨by rfl, ?hyc4⟩) (by assumption) ?restc4
          case hyc4 => (intro w hSw; (try dsimp only at hSw); go_simp; (try with_reducible rfl))
          try simp only [Act.put, List.setIfInBounds_toArray, List.set_cons_zero, List.set_cons_succ]
          refine wpAnyH_ready (rs := [5]) (by kernel_rfl) (by simp) ?_
          refine AllReadyH.cons (o := { dst := some 49, op := Op.call { callee := Callee.value (Operand.func 71), args := #[Operand.tmp 48], argTypes := #[27] }, type := 4, pos := "ref.go:45", after := #[{ on := 4, ground := Ground.data }], guard := none }) rfl (fun K hK => ?_) AllReadyH.nil
          go_simp
          go_at_call 71
          refine (C7.out _).mono ?_
          rintro e' w5 ⟨rfl, hb⟩
          go_wp2_with fail
          refine hK.out _ _ ?_ (fun hHeld1 => ?_)
          · exact mr_carry2 hHeld0 hb
          clear hK K hHeld0 hb
          try simp only [Act.put, List.setIfInBounds_toArray, List.set_cons_zero, List.set_cons_succ]
          refine wpAnyH_take (i := 6) (oi := { dst := some 50, op := Op.unOp UnOp.not 4 (Operand.tmp 49), type := 4, pos := "ref.go:45", after := #[{ on := 5, ground := Ground.data }], guard := none }) (v := ?vc6) rfl (by kernel_rfl) (by kernel_rfl) (by kernel_rfl) (fun _ _ _ h => h) (Or.inl ⟨by rfl, ?hyc6⟩) (by assumption) ?restc6
          case hyc6 => (intro w hSw; (try dsimp only at hSw); go_simp; (try with_reducible rfl))
          try simp only [Act.put, List.setIfInBounds_toArray, List.set_cons_zero, List.set_cons_succ]
          refine wpAnyH_take (i := 7) (oi := { dst := some 51, op := Op.move (Operand.tmp 50), type := 4, pos := "ref.go:45", after := #[{ on := 6, ground := Ground.data }, { on := 5, ground := Ground.chain }], guard := none }) (v := ?vc7) rfl (by kernel_rfl) (by kernel_rfl) (by kernel_rfl) (fun _ _ _ h => h) (Or.inl ⟨by rfl, ?hyc7⟩) (by assumption) ?restc7
          case hyc7 => (intro w hSw; (try dsimp only at hSw); go_simp; (try with_reducible rfl))
          try simp only [Act.put, List.setIfInBounds_toArray, List.set_cons_zero, List.set_cons_succ]
          refine wpAnyH_take (i := 8) (oi := { dst := some 52, op := Op.move (Operand.tmp 3), type := 3, pos := "ref.go:45", after := #[{ on := 7, ground := Ground.guard }], guard := some (7, false) }) (v := ?vc8) rfl (by kernel_rfl) (by kernel_rfl) (by kernel_rfl) (fun _ _ _ h => h) (Or.inl ⟨by rfl, ?hyc8⟩) (by assumption) ?restc8
          case hyc8 => (intro w hSw; (try dsimp only at hSw); go_simp; (try with_reducible rfl))
          try simp only [Act.put, List.setIfInBounds_toArray, List.set_cons_zero, List.set_cons_succ]
          refine wpAnyH_take (i := 9) (oi := { dst := some 53, op := Op.binOp BinOp.gtr 3 (Operand.tmp 52) (Operand.const (Value.int IntKind.i64 0)) 3, type := 4, pos := "ref.go:45", after := #[{ on := 8, ground := Ground.data }, { on := 7, ground := Ground.guard }], guard := some (7, false) }) (v := ?vc9) rfl (by kernel_rfl) (by kernel_rfl) (by kernel_rfl) (fun _ _ _ h => h) (Or.inl ⟨by rfl, ?hyc9⟩) (by assumption) ?restc9
          case hyc9 => (intro w hSw; (try dsimp only at hSw); go_simp; (try with_reducible rfl))
          try simp only [Act.put, List.setIfInBounds_toArray, List.set_cons_zero, List.set_cons_succ]
          refine wpAnyH_take (i := 10) (oi := { dst := some 54, op := Op.move (Operand.tmp 53), type := 4, pos := "ref.go:45", after := #[{ on := 9, ground := Ground.data }, { on := 7, ground := Ground.chain }, { on := 7, ground := Ground.guard }], guard := some (7, false) }) (v := ?vc10) rfl (by kernel_rfl) (by kernel_rfl) (by kernel_rfl) (fun _ _ _ h => h) (Or.inl ⟨by rfl, ?hyc10⟩) (by assumption) ?restc10
          case hyc10 => (intro w hSw; (try dsimp only at hSw); go_simp; (try with_reducible rfl))
          try simp only [Act.put, List.setIfInBounds_toArray, List.set_cons_zero, List.set_cons_succ]
          refine wpAnyH_take (i := 11) (oi := { dst := some 55, op := Op.fieldAddr 32 (Operand.tmp 1) 6, type := 0, pos := "ref.go:45", after := #[{ on := 10, ground := Ground.guard }], guard := some (10, true) }) (v := ?vc11) rfl (by kernel_rfl) (by kernel_rfl) (by kernel_rfl) (fun _ _ _ h => h) (Or.inl ⟨by rfl, ?hyc11⟩) (by assumption) ?restc11
          case hyc11 => (intro w hSw; (try dsimp only at hSw); go_simp; (try with_reducible rfl))
          try simp only [Act.put, List.setIfInBounds_toArray, List.set_cons_zero, List.set_cons_succ]
          refine wpAnyH_take (i := 12) (oi := { dst := some 56, op := Op.load 30 (Operand.tmp 55), type := 30, pos := "ref.go:45", after := #[{ on := 11, ground := Ground.data }, { on := 10, ground := Ground.guard }], guard := some (10, true) }) (v := ?vc12) rfl (by kernel_rfl) (by kernel_rfl) (by kernel_rfl) (fun _ _ _ h => h) (Or.inl ⟨by rfl, ?hyc12⟩) (by assumption) ?restc12
          case hyc12 => (intro w hSw; (try dsimp only at hSw); go_simp; (try with_reducible rfl))
          try simp only [Act.put, List.setIfInBounds_toArray, List.set_cons_zero, List.set_cons_succ]
          refine wpAnyH_take (i := 13) (oi := { dst := some 57, op := Op.move (Operand.tmp 3), type := 3, pos := "ref.go:45", after := #[{ on := 10, ground := Ground.guard }], guard := some (10, true) }) (v := ?vc13) rfl (by kernel_rfl) (by kernel_rfl) (by kernel_rfl) (fun _ _ _ h => h) (Or.inl ⟨by rfl, ?hyc13⟩) (by assumption) ?restc13
          case hyc13 => (intro w hSw; (try dsimp only at hSw); go_simp; (try with_reducible rfl))
          try simp only [Act.put, List.setIfInBounds_toArray, List.set_cons_zero, List.set_cons_succ]
          refine wpAnyH_take (i := 14) (oi := { dst := some 58, op := Op.binOp BinOp.sub 3 (Operand.tmp 57) (Operand.const (Value.int IntKind.i64 1)) 3, type := 3, pos := "ref.go:45", after := #[{ on := 13, ground := Ground.data }, { on := 10, ground := Ground.guard }], guard := some (10, true) }) (v := ?vc14) rfl (by kernel_rfl) (by kernel_rfl) (by kernel_rfl) (fun _ _ _ h => h) (Or.inl ⟨by rfl, ?hyc14⟩) (by assumption) ?restc14
          case hyc14 => (intro w hSw; (try dsimp only at hSw); go_simp; (try with_reducible rfl))
          try simp only [Act.put, List.setIfInBounds_toArray, List.set_cons_zero, List.set_cons_succ]
          refine wpAnyH_take (i := 15) (oi := { dst := some 59, op := Op.indexAddr 30 (Operand.tmp 56) (Operand.tmp 58), type := 0, pos := "ref.go:45", after := #[{ on := 12, ground := Ground.data }, { on := 14, ground := Ground.data }, { on := 10, ground := Ground.guard }], guard := some (10, true) }) (v := ?vc15) rfl (by kernel_rfl) (by kernel_rfl) (by kernel_rfl) (fun _ _ _ h => h) (Or.inl ⟨by rfl, ?hyc15⟩) (by assumption) ?restc15
          case hyc15 => (intro w hSw; (try dsimp only at hSw); go_simp; (try with_reducible rfl))
          try simp only [Act.put, List.setIfInBounds_toArray, List.set_cons_zero, List.set_cons_succ]
          refine wpAnyH_take (i := 16) (oi := { dst := some 60, op := Op.load 27 (Operand.tmp 59), type := 27, pos := "ref.go:45", after := #[{ on := 15, ground := Ground.data }, { on := 10, ground := Ground.guard }], guard := some (10, true) }) (v := ?vc16) rfl (by kernel_rfl) (by kernel_rfl) (by kernel_rfl) (fun _ _ _ h => h) (Or.inl ⟨by rfl, ?hyc16⟩) (by assumption) ?restc16
          case hyc16 => (intro w hSw; (try dsimp only at hSw); go_simp; (try with_reducible rfl))
          try simp only [Act.put, List.setIfInBounds_toArray, List.set_cons_zero, List.set_cons_succ]
          refine wpAnyH_take (i := 17) (oi := { dst := some 61, op := Op.fieldAddr 32 (Operand.tmp 1) 6, type := 0, pos := "ref.go:45", after := #[{ on := 10, ground := Ground.guard }], guard := some (10, true) }) (v := ?vc17) rfl (by kernel_rfl) (by kernel_rfl) (by kernel_rfl) (fun _ _ _ h => h) (Or.inl ⟨by rfl, ?hyc17⟩) (by assumption) ?restc17
          case hyc17 => (intro w hSw; (try dsimp only at hSw); go_simp; (try with_reducible rfl))
          try simp only [Act.put, List.setIfInBounds_toArray, List.set_cons_zero, List.set_cons_succ]
          refine wpAnyH_take (i := 18) (oi := { dst := some 62, op := Op.load 30 (Operand.tmp 61), type := 30, pos := "ref.go:45", after := #[{ on := 17, ground := Ground.data }, { on := 10, ground := Ground.guard }], guard := some (10, true) }) (v := ?vc18) rfl (by kernel_rfl) (by kernel_rfl) (by kernel_rfl) (fun _ _ _ h => h) (Or.inl ⟨by rfl, ?hyc18⟩) (by assumption) ?restc18
          case hyc18 => (intro w hSw; (try dsimp only at hSw); go_simp; (try with_reducible rfl))
          try simp only [Act.put, List.setIfInBounds_toArray, List.set_cons_zero, List.set_cons_succ]
          refine wpAnyH_take (i := 19) (oi := { dst := some 63, op := Op.move (Operand.tmp 3), type := 3, pos := "ref.go:45", after := #[{ on := 10, ground := Ground.guard }], guard := some (10, true) }) (v := ?vc19) rfl (by kernel_rfl) (by kernel_rfl) (by kernel_rfl) (fun _ _ _ h => h) (Or.inl ⟨by rfl, ?hyc19⟩) (by assumption) ?restc19
          case hyc19 => (intro w hSw; (try dsimp only at hSw); go_simp; (try with_reducible rfl))
          try simp only [Act.put, List.setIfInBounds_toArray, List.set_cons_zero, List.set_cons_succ]
          refine wpAnyH_take (i := 20) (oi := { dst := some 64, op := Op.indexAddr 30 (Operand.tmp 62) (Operand.tmp 63), type := 0, pos := "ref.go:45", after := #[{ on := 18, ground := Ground.data }, { on := 19, ground := Ground.data }, { on := 10, ground := Ground.guard }], guard := some (10, true) }) (v := ?vc20) rfl (by kernel_rfl) (by kernel_rfl) (by kernel_rfl) (fun _ _ _ h => h) (Or.inl ⟨by rfl, ?hyc20⟩) (by assumption) ?restc20
          case hyc20 => (intro w hSw; (try dsimp only at hSw); go_simp; (try with_reducible rfl))
          try simp only [Act.put, List.setIfInBounds_toArray, List.set_cons_zero, List.set_cons_succ]
          refine wpAnyH_take (i := 21) (oi := { dst := some 65, op := Op.load 27 (Operand.tmp 64), type := 27, pos := "ref.go:45", after := #[{ on := 20, ground := Ground.data }, { on := 10, ground := Ground.guard }], guard := some (10, true) }) (v := ?vc21) rfl (by kernel_rfl) (by kernel_rfl) (by kernel_rfl) (fun _ _ _ h => h) (Or.inl ⟨by rfl, ?hyc21⟩) (by assumption) ?restc21
          case hyc21 => (intro w hSw; (try dsimp only at hSw); go_simp; (try with_reducible rfl))
          try simp only [Act.put, List.setIfInBounds_toArray, List.set_cons_zero, List.set_cons_succ]
          refine wpAnyH_ready (rs := [22]) (by kernel_rfl) (by simp) ?_
          refine AllReadyH.cons (o := { dst := some 66, op := Op.call { callee := Callee.value (Operand.func 72), args := #[Operand.tmp 60, Operand.tmp 65], argTypes := #[27, 27] }, type := 4, pos := "ref.go:45", after := #[{ on := 16, ground := Ground.data }, { on := 21, ground := Ground.data }, { on := 10, ground := Ground.chain }, { on := 10, ground := Ground.guard }], guard := some (10, true) }) rfl (fun K hK => ?_) AllReadyH.nil
          go_simp
          go_at_call 72
          refine (CL.out _).mono ?_
          rintro e' w6 ⟨rfl, hb⟩
          go_wp2_with fail
          refine hK.out _ _ ?_ (fun hHeld2 => ?_)
          · exact mr_carry2 hHeld1 hb
          clear hK K hHeld1 hb
          try simp only [Act.put, List.setIfInBounds_toArray, List.set_cons_zero, List.set_cons_succ]
          refine wpAnyH_take (i := 23) (oi := { dst := some 67, op := Op.unOp UnOp.not 4 (Operand.tmp 66), type := 4, pos := "ref.go:45", after := #[{ on := 22, ground := Ground.data }, { on := 10, ground := Ground.guard }], guard := some (10, true) }) (v := ?vc23) rfl (by kernel_rfl) (by kernel_rfl) (by kernel_rfl) (fun _ _ _ h => h) (Or.inl ⟨by rfl, ?hyc23⟩) (by assumption) ?restc23
          case hyc23 => (intro w hSw; (try dsimp only at hSw); go_simp; (try with_reducible rfl))
          try simp only [Act.put, List.setIfInBounds_toArray, List.set_cons_zero, List.set_cons_succ]
          refine wpAnyH_take (i := 24) (oi := { dst := some 68, op := Op.pick (Operand.tmp 54) (Operand.tmp 67) (Operand.const (Value.bool false)), type := 4, pos := "ref.go:45", after := #[{ on := 10, ground := Ground.data }, { on := 23, ground := Ground.data }, { on := 7, ground := Ground.guard }], guard := some (7, false) }) (v := ?vc24) rfl (by kernel_rfl) (by kernel_rfl) (by kernel_rfl) (fun _ _ _ h => h) (Or.inl ⟨by rfl, ?hyc24⟩) (by assumption) ?restc24
          case hyc24 => (intro w hSw; (try dsimp only at hSw); go_simp; (try with_reducible rfl))
          try simp only [Act.put, List.setIfInBounds_toArray, List.set_cons_zero, List.set_cons_succ]
          refine wpAnyH_take (i := 25) (oi := { dst := some 69, op := Op.pick (Operand.tmp 51) (Operand.const (Value.bool true)) (Operand.tmp 68), type := 4, pos := "ref.go:45", after := #[{ on := 7, ground := Ground.data }, { on := 24, ground := Ground.data }], guard := none }) (v := ?vc25) rfl (by kernel_rfl) (by kernel_rfl) (by kernel_rfl) (fun _ _ _ h => h) (Or.inl ⟨by rfl, ?hyc25⟩) (by assumption) ?restc25
          case hyc25 => (intro w hSw; (try dsimp only at hSw); go_simp; (try with_reducible rfl))
          try simp only [Act.put, List.setIfInBounds_toArray, List.set_cons_zero, List.set_cons_succ]
          refine wpAnyH_done (by kernel_rfl) ?_ _
          have BF := Lib.hid (hB.out.trans (hHeld2.1.mono hB.out.size))
          have BG := Lib.hid (BW.out.trans (hHeld2.1.mono BW.out.size))
          clear hHeld2
          cases zl
          · obtain rfl : z6 = false := STOP.out HST2.out
            go_wp2_with fail
            go_ret
            exact ⟨rfl, BG.out⟩
          · go_wp2_with fail
            go_roundw
            case rel => exact ⟨j + 1, by omega, by go_num, HST2, BF⟩
            case measure => simp [intOf] <;> omega
    · obtain rfl : j = n := by omega
      obtain rfl : z6 = true := by rw [← HC.out]; exact hF.out
      go_wp2_with fail
      go_ret
      exact ⟨rfl, BW.out⟩
end Go.Proofs.Ythboiklcjpnhbaa
/- contract of the reference's sum -/
namespace Go.Proofs.Ythboiklcjpnhbaa
open Go.RowKit
set_option linter.unusedVariables false
set_option maxRecDepth 20000

theorem bit_of (x j : Nat) : ((x : Int) / 2 ^ j).tmod 2 = ((x / 2 ^ j % 2 : Nat) : Int) := by
  rw [Int.tmod_eq_emod_of_nonneg (Int.ediv_nonneg (by omega) (Int.pow_nonneg (by decide)))]
  norm_cast
theorem rst_yes (y x j : Nat) (h : y % 2 ≠ x / 2 ^ j % 2) : (((y : Int) % 2 != ((x : Int) / 2 ^ j).tmod 2)) = true := by
  rw [bit_of, bne_iff_ne]; omega
theorem rst_no (y x j : Nat) (h : y % 2 = x / 2 ^ j % 2) : (((y : Int) % 2 != ((x : Int) / 2 ^ j).tmod 2)) = false := by
  rw [bit_of, bne_eq_false_iff_eq]; omega
theorem flip_sub (r : Nat) (h : r < 4294967296) : (4294967295 : Int) - (r : Int) = ((4294967295 - r : Nat) : Int) := by omega

set_option maxHeartbeats 800000 in
theorem rsumOf_any (a : Option Addr) (n cap : Nat) (bs : List Nat) (w : World) (h : HoldsB w a n bs) (hn : n ≤ 4611686018427387904) :
    Calls Try.prog 69 #[.slice a n cap] w fun e w' => e = .returned (.int .u32 (Crc.sum bs)) ∧ w = w' := by
  have hl := h.len
  have hb := h.2
  rcases Nat.eq_zero_or_pos n with h0 | h0
  · subst h0
    obtain rfl := List.eq_nil_of_length_eq_zero hl
    clear h hl hb hn
    go_enter Try.func69, Try.ntmps69
    go_wp2
    go_loop [3, 4] (fun x i => i = .int .i64 0 ∧ x = .int .u32 4294967295) (fun _ _ => 0)
    case atStart => exact ⟨rfl, rfl⟩
    case round =>
      obtain ⟨rfl, rfl⟩ := hrel
      go_wp2
      go_ret
      exact ⟨rfl, rfl⟩
  · obtain ⟨b, o, rfl, hcell⟩ := h.at h0
    have HC := Lib.hid hcell; have HL := Lib.hid hl; have HB := Lib.hid hb
    clear hcell hl hb h
    go_enter Try.func69, Try.ntmps69
    go_wp2
    go_loop [3, 4] (fun x i => ∃ k : Nat, k ≤ n ∧ i = .int .i64 k ∧ x = .int .u32 (Crc.reg 4294967295 (bs.take k) : Nat)) (fun _ i => n - (intOf i).toNat)
    case atStart => exact ⟨0, by omega, rfl, rfl⟩
    case round =>
      obtain ⟨k, hk, rfl, rfl⟩ := hrel
      have hr := Crc.reg_lt (bs.take k) (fun x hx => HB.out x (List.mem_of_mem_take hx)) 4294967295 (by omega)
      by_cases hlt : k < n
      · have e1 := HC.out k hlt
        have hx := getD_lt HB.out k
        have hts := take_succ_getD bs 0 k (by rw [HL.out]; exact hlt)
        have hs : Crc.reg 4294967295 (bs.take (k + 1)) = Crc.rstN (Crc.reg 4294967295 (bs.take k)) (bs.getD k 0) 8 := by rw [hts, Crc.reg_append, Crc.rstN_8 _ _ hx]; rfl
        have HS := Lib.hid hs
        clear hs hts
        obtain ⟨x, hx1⟩ : ∃ x, bs.getD k 0 = x := ⟨_, rfl⟩
        obtain ⟨r, hr1⟩ : ∃ r, Crc.reg 4294967295 (bs.take k) = r := ⟨_, rfl⟩
        rw [hx1] at e1 hx HS
        rw [hr1] at hr HS ⊢
        clear hx1 hr1
        go_wp2
        go_loop [3, 5, 6] (fun c i _ => ∃ j : Nat, j ≤ 8 ∧ i = .int .i64 j ∧ c = .int .u32 (Crc.rstN r x j : Nat)) (fun _ i _ => 8 - (intOf i).toNat)
        case atStart => exact ⟨0, by omega, rfl, rfl⟩
        case round =>
          obtain ⟨j, hj, rfl, rfl⟩ := hrel
          have hy := Crc.rstN_lt hr hx j
          have hs : Crc.rstN r x (j + 1) = Crc.rst (Crc.rstN r x j) (x / 2 ^ j % 2) := rfl
          have HS2 := Lib.hid hs
          clear hs
          obtain ⟨y, hyy⟩ : ∃ y, Crc.rstN r x j = y := ⟨_, rfl⟩
          rw [hyy] at hy HS2 ⊢
          have HYY := Lib.hid hyy
          clear hyy
          by_cases hl8 : j < 8
          · by_cases hb : y % 2 = x / 2 ^ j % 2
            · have ht := rst_no y x j hb
              have HB2 := Lib.hid hb
              clear hb
              go_wp2
              go_round
              case rel => exact ⟨j + 1, by omega, by go_num, by rw [HS2.out, Crc.rst, if_neg (fun h => h HB2.out)]; go_num⟩
              case measure => simp [intOf]; omega
            · have ht := rst_yes y x j hb
              have HB2 := Lib.hid hb
              clear hb
              go_wp2
              go_round
              case rel => exact ⟨j + 1, by omega, by go_num, by rw [HS2.out, Crc.rst, if_pos HB2.out, xor_poly y hy]⟩
              case measure => simp [intOf]; omega
          · obtain rfl : j = 8 := by omega
            go_wp2
            go_round
            case rel => exact ⟨k + 1, by omega, by go_num, by rw [HS.out, HYY.out]⟩
            case measure => simp [intOf]; omega
      · have hkn : k = n := by omega
        have HK := Lib.hid hkn
        clear hkn
        go_wp2
        go_ret
        exact ⟨ret_int (by rw [flip_sub _ hr, List.take_of_length_le (by rw [HL.out, HK.out]; exact Nat.le_refl _)]; rfl), rfl⟩
end Go.Proofs.Ythboiklcjpnhbaa
/- the document's Seal (split from Pk4) -/
namespace Go.Proofs.Ythboiklcjpnhbaa
open Go.RowKit
set_option linter.unusedVariables false
set_option maxRecDepth 20000
theorem rSeal_any (a : Option Addr) (n cap : Nat) (bs : List Nat) (w : World) (h : HoldsB w a n bs) (hnil : a = none → n = 0 ∧ cap = 0) (hn : n ≤ 524288) :
    Calls Try.prog 38 #[.slice a n cap] w (RetB 5 w (sealB bs)) := by
  have CS := Lib.hid (rsumOf_any a n cap bs w h (by omega))
  obtain ⟨c, hc⟩ : ∃ c, Crc.sum bs = c := ⟨_, rfl⟩
  have hc32 : c < 4294967296 := by rw [← hc]; exact sum_lt9 bs
  have CP := Lib.hid (rput_any a n cap bs (c : Int) 4 w h hnil hn)
  rw [bits_nat9 c (by omega), show sizeV 4 = 4 from rfl] at CP
  unfold sealB
  rw [hc] at CS ⊢
  obtain ⟨o, ho⟩ : ∃ o, bs ++ Cod.bytesOf c 4 = o := ⟨_, rfl⟩
  rw [ho] at CP ⊢
  clear h hnil hc ho
  go_enter Try.func38, Try.ntmps38
  go_wp2_with fail
  with_reducible refine CS.out.mono ?_
  rintro e w' ⟨rfl, rfl⟩
  go_wp2_with fail
  with_reducible refine CP.out.mono ?_
  rintro e w' ⟨a2, c2, rfl, h1, h2, h3⟩
  have O := Lib.hid h1; have B := Lib.hid h2; have N := Lib.hid h3
  clear h1 h2 h3 CS CP
  go_wp2_with fail
  go_ret
  exact ⟨a2, c2, rfl, O.out, B.out, N.out⟩
end Go.Proofs.Ythboiklcjpnhbaa
/- messages in the document: fields (by gen/md3.py) -/
namespace Go.Proofs.Ythboiklcjpnhbaa
open Go.RowKit
set_option linter.unusedVariables false
set_option maxRecDepth 20000
theorem dput (v : Int) (s : Nat) (si : Int) (hsi : si = (s : Int)) (hs : s ≤ 8) (o : List Nat) (m : Nat) {w0 w : World} {bs : List Nat} {n : Nat} {a : Option Addr} {c : Nat} (h : BB w0 bs a c w) (hn : bs.length = n) (hl : n ≤ 524288) (ho : bs ++ Cod.bytesOf (bitsV v) s = o) (hm : n + s = m) :
    Calls Try.prog 37 #[.slice a n c, .int .i64 v, .int .i64 si] w (RBB w0 w o m) := by
  subst ho hsi hn hm
  refine (rput_any a bs.length c bs v (s : Int) w h.h h.n hl).mono ?_
  rintro e w' hr
  have e1 : sizeV (s : Int) = s := by unfold sizeV; omega
  rw [e1] at hr
  exact BB.of_ret h.b hr (fun x hx => by
    rcases List.mem_append.1 hx with hx | hx
    · exact h.lt x hx
    · exact Cod.bytesOf_lt _ _ x hx) (by rw [List.length_append, Cod.bytesOf_length])
theorem dtext (s : Tx) (o : List Nat) (m : Nat) {w0 w : World} {bs : List Nat} {n : Nat} {a : Option Addr} {c : Nat} (h : BB w0 bs a c w) (hn : bs.length = n) (hl : n ≤ 262144) (hs : s.size ≤ 1100) (ho : bs ++ tB s = o) (hm : n + (2 + s.size) = m) :
    Calls Try.prog 89 #[.slice a n c, .string s] w (RBB w0 w o m) := by
  subst ho hn hm
  refine (rputText_any a bs.length c bs s w h.h h.n hl (by omega)).mono ?_
  rintro e w' hr
  have e1 : putTextV bs s = bs ++ tB s := by unfold putTextV tB; rw [List.append_assoc]
  rw [e1] at hr
  exact BB.of_ret h.b hr (fun x hx => by
    rcases List.mem_append.1 hx with hx | hx
    · exact h.lt x hx
    · exact tB_lt s x hx) (by rw [List.length_append, tB_len s (by omega)])
set_option maxHeartbeats 1600000 in
theorem dfours (za : Option Addr) (n zc : Nat) (zs : List Int) (m : Nat) (w : World) (h : HoldsI .i64 w za n zs) (hn : n ≤ 8) (hm : 4 * n = m) :
    Calls Try.prog 66 #[.slice .none 0 0, .slice za n zc] w (RBB w w (nsB zs) m) := by
  have HH := Lib.hid h
  have HL := Lib.hid h.1
  have HM := Lib.hid hm
  clear h hm
  go_enter Try.func66, Try.ntmps66
  go_wp2_with fail
  go_loopw [0, 5] (fun bv iv wr => ∃ (j k : Nat) (bs : List Nat) (ba : Option Addr) (bc : Nat), j ≤ n ∧ bv = .slice ba k bc ∧ iv = .int .i64 (j : Int) ∧ Hid (k = 4 * j) ∧ Hid (bs.length = k) ∧ Hid (bs = nsB (zs.take j)) ∧ Hid (BB w bs ba bc wr)) (fun _ iv _ => n - (intOf iv).toNat)
  case atStart => exact ⟨0, 0, [], none, 0, by omega, rfl, rfl, Lib.hid rfl, Lib.hid rfl, Lib.hid (by simp [nsB]), Lib.hid ⟨holdsB_nil _ _, fun _ => ⟨rfl, rfl⟩, Below.refl _ _⟩⟩
  case round =>
    obtain ⟨j, k, bs, ba, bc, hj, rfl, rfl, hk4, hk, hbs, hB⟩ := hrel
    rename World => wr
    by_cases hlt : j < n
    · obtain ⟨qb, qo, rfl, hcc⟩ := (HH.out.below hB.out.b).at (by omega)
      have x0 := hcc j hlt
      obtain ⟨z, hz⟩ : ∃ z, zs.getD j 0 = z := ⟨_, rfl⟩
      rw [hz] at x0
      have HS := Lib.hid (show nsB (zs.take (j + 1)) = bs ++ n4 z from by rw [hbs.out, nsB_snoc zs j (by rw [HL.out]; exact hlt), hz])
      have CP := Lib.hid (dput z 4 4 rfl (by omega) (bs ++ n4 z) (k + 4) hB.out hk.out (by have := hk4.out; omega) rfl rfl)
      have n1' : (0 : Int) ≤ (j : Int) := by omega
      have n2' : (j : Int) < (n : Int) := by omega
      obtain ⟨kk, hkk⟩ : ∃ kk, k + 4 = kk := ⟨_, rfl⟩
      have k4 := Lib.hid (show kk = 4 * (j + 1) from by have := hk4.out; omega)
      rw [hkk] at CP
      clear hcc hz hkk
      go_wp2_with fail
      with_reducible refine CP.out.mono ?_
      rintro e w' ⟨a2, c2, rfl, hl2, hB2, -⟩
      have B2 := Lib.hid hB2; have L2 := Lib.hid hl2
      clear hB2 hl2 CP x0
      go_wp2_with fail
      go_roundw
      case rel => exact ⟨j + 1, kk, bs ++ n4 z, a2, c2, by omega, rfl, by go_num, k4, L2, Lib.hid HS.out.symm, B2⟩
      case measure => simp [intOf] <;> omega
    · obtain rfl : j = n := by omega
      have HT : zs.take j = zs := by rw [← HL.out]; exact List.take_length
      have FF := Lib.hid (show RBB w w (nsB zs) m (.returned (.slice ba k bc)) wr from ⟨ba, bc, by rw [← HM.out, ← hk4.out], by rw [← HT, ← hbs.out, hk.out, hk4.out, HM.out], by rw [← HT, ← hbs.out]; exact hB.out, hB.out.b⟩)
      clear HT hbs hB hk
      go_wp2_with fail
      go_ret
      exact FF.out
theorem dflag (f : Bool) (o : List Nat) (m : Nat) {w0 w : World} {bs : List Nat} {n : Nat} {a : Option Addr} {c : Nat} (h : BB w0 bs a c w) (hn : bs.length = n) (hl : n ≤ 524288) (ho : bs ++ fB f = o) (hm : n + 1 = m) :
    Calls Try.prog 90 #[.slice a n c, .bool f] w (RBB w0 w o m) := by
  have CP := Lib.hid (dput (if f then 1 else 0) 1 1 rfl (by omega) o m h hn hl ho hm)
  clear h hn ho hm
  cases f
  · simp only [Bool.false_eq_true, if_false] at CP
    go_enter Try.func90, Try.ntmps90
    go_wp2_with fail
    with_reducible refine CP.out.mono ?_
    rintro e w' ⟨a2, c2, rfl, hl2, hB2, hW2⟩
    have B2 := Lib.hid hB2; have L2 := Lib.hid hl2; have W2 := Lib.hid hW2
    clear hB2 hl2 CP hW2
    go_wp2_with fail
    go_ret
    exact ⟨a2, c2, rfl, L2.out, B2.out, W2.out⟩
  · simp only [if_true] at CP
    go_enter Try.func90, Try.ntmps90
    go_wp2_with fail
    with_reducible refine CP.out.mono ?_
    rintro e w' ⟨a2, c2, rfl, hl2, hB2, hW2⟩
    have B2 := Lib.hid hB2; have L2 := Lib.hid hl2; have W2 := Lib.hid hW2
    clear hB2 hl2 CP hW2
    go_wp2_with fail
    go_ret
    exact ⟨a2, c2, rfl, L2.out, B2.out, W2.out⟩
theorem as_carry {w0 w w' : World} {p i j : Nat} {u v : Value} (h : Below w0.heap.size w0 w ∧ w.cell? ⟨p, i, none⟩ = some u ∧ w.cell? ⟨p, j, none⟩ = some v) (hb : Below w.heap.size w w') : Below w0.heap.size w0 w' ∧ w'.cell? ⟨p, i, none⟩ = some u ∧ w'.cell? ⟨p, j, none⟩ = some v := ⟨h.1.trans (hb.mono h.1.size), cellD h.2.1 hb, cellD h.2.2 hb⟩
set_option maxHeartbeats 12800000 in
set_option maxRecDepth 100000 in
theorem dAsked (x : AskP) (o : List Nat) (m : Nat) (w : World) (ht : x.text.size ≤ 1100) (ha : x.aw.size ≤ 1100) (ho : askB x = o) (hm : o.length = m) :
    Calls Try.prog 67 #[agAsk x] w (RBB w w o m) := by
  have hM : m = 20 + (2 + x.text.size) + 1 + 1 + 1 + 1 + (2 + x.aw.size) := by
    rw [← hm, ← ho]; unfold askB
    simp only [List.length_append, nsB_len, n1_len, fB_len, tB_len x.text (by omega), itB_len (x.ad, x.aw) (by simp only; omega), List.length_cons, List.length_nil]
    omega
  have CF := Lib.hid (fun w1 => dfours _ 5 5 [x.slot, x.query, x.shard, x.seq, x.epoch] 20 _ (holdsI_lit w1 [x.slot, x.query, x.shard, x.seq, x.epoch] 3 (0, 0)) (by omega) (by omega))
  obtain ⟨o1, ho1⟩ : ∃ o1, nsB [x.slot, x.query, x.shard, x.seq, x.epoch] = o1 := ⟨_, rfl⟩
  rw [ho1] at CF
  obtain ⟨m2, hm2⟩ : ∃ m2, 20 + (2 + x.text.size) = m2 := ⟨_, rfl⟩
  obtain ⟨m3, hm3⟩ : ∃ m3, m2 + 1 = m3 := ⟨_, rfl⟩
  obtain ⟨m4, hm4⟩ : ∃ m4, m3 + 1 = m4 := ⟨_, rfl⟩
  obtain ⟨m5, hm5⟩ : ∃ m5, m4 + 1 = m5 := ⟨_, rfl⟩
  obtain ⟨m6, hm6⟩ : ∃ m6, m5 + 1 = m6 := ⟨_, rfl⟩
  obtain ⟨o2, ho2⟩ : ∃ o2, o1 ++ tB x.text = o2 := ⟨_, rfl⟩
  obtain ⟨o3, ho3⟩ : ∃ o3, o2 ++ n1 x.k = o3 := ⟨_, rfl⟩
  obtain ⟨o4, ho4⟩ : ∃ o4, o3 ++ n1 x.batch = o4 := ⟨_, rfl⟩
  obtain ⟨o5, ho5⟩ : ∃ o5, o4 ++ fB x.first = o5 := ⟨_, rfl⟩
  obtain ⟨o6, ho6⟩ : ∃ o6, o5 ++ n1 x.ad = o6 := ⟨_, rfl⟩
  have hO : o6 ++ tB x.aw = o := by rw [← ho, ← ho6, ← ho5, ← ho4, ← ho3, ← ho2, ← ho1]; unfold askB itB; simp only [List.append_assoc]
  have K2 := Lib.hid (fun a c w1 (h : BB w o1 a c w1) (hl : o1.length = 20) => dtext x.text o2 m2 h hl (by omega) ht ho2 hm2)
  have K3 := Lib.hid (fun a c w1 (h : BB w o2 a c w1) (hl : o2.length = m2) => dput x.k 1 1 rfl (by omega) o3 m3 h hl (by omega) ho3 hm3)
  have K4 := Lib.hid (fun a c w1 (h : BB w o3 a c w1) (hl : o3.length = m3) => dput x.batch 1 1 rfl (by omega) o4 m4 h hl (by omega) ho4 hm4)
  have K5 := Lib.hid (fun a c w1 (h : BB w o4 a c w1) (hl : o4.length = m4) => dflag x.first o5 m5 h hl (by omega) ho5 hm5)
  have K6 := Lib.hid (fun a c w1 (h : BB w o5 a c w1) (hl : o5.length = m5) => dput x.ad 1 1 rfl (by omega) o6 m6 h hl (by omega) ho6 hm6)
  have K7 := Lib.hid (fun a c w1 (h : BB w o6 a c w1) (hl : o6.length = m6) => dtext x.aw o m h hl (by omega) ha hO (by omega))
  obtain ⟨w3, hw3⟩ : ∃ w3, w.alloc (.cells #[.int .i64 x.slot, .int .i64 x.query, .int .i64 x.shard, .int .i64 x.seq, .int .i64 x.epoch, .string x.text, .int .i64 x.k, .int .i64 x.batch, .bool x.first, .int .i64 x.ad, .string x.aw] 29) = w3 := ⟨_, rfl⟩
  have BX := Lib.hid (show Below w.heap.size w w3 from hw3 ▸ below_one w _)
  have XI := Lib.hid (show MAskIn w3 w.heap.size x from hw3 ▸ MAskIn_new _ x _ _ (0, 0) rfl)
  have T1 := Lib.hid ht; have T2 := Lib.hid ha
  clear ht ha ho hm hM ho1 hm2 hm3 hm4 hm5 hm6 ho2 ho3 ho4 ho5 ho6 hO
  go_enter Try.func67, Try.ntmps67
  go_upto_region 1 with fail
  try rw [hw3]
  clear hw3
  obtain ⟨p, hp⟩ : ∃ p, w.heap.size = p := ⟨_, rfl⟩
  rw [hp] at XI
  try simp only [hp]
  clear hp
  have hX := XI.out
  unfold MAskIn at hX
  obtain ⟨x0, x1, x2, x3, x4, x5, x6, x7, x8, x9, x10⟩ := hX
  go_wp2_with fail
  have hb4 := below_one w3 (.cells #[.int .i64 x.slot, .int .i64 x.query, .int .i64 x.shard, .int .i64 x.seq, .int .i64 x.epoch] 3)
  have CF' := Lib.hid (CF.out w3)
  refine CF'.out.mono ?_
  rintro e w4 ⟨a1, c1, rfl, hl1, hB1, hb⟩
  have hb5 := hb4.trans (hb.mono hb4.size)
  have X4 := Lib.hid (XI.out.below hb5)
  have D1 := Lib.hid (hB1.rebase (BX.out.trans (hb4.mono BX.out.size)))
  have E2 := Lib.hid (K2.out a1 c1 w4 D1.out hl1)
  clear x0 x1 x2 x3 x4 x5 x6 x7 x8 x9 x10 hb4 CF CF' hB1 hb hb5 hl1 K2
  have hX := X4.out
  unfold MAskIn at hX
  obtain ⟨x0, x1, x2, x3, x4, x5, x6, x7, x8, x9, x10⟩ := hX
  go_wp2_with fail
  with_reducible refine E2.out.mono ?_
  rintro e w5 ⟨a2, c2, rfl, hl2, hB2, hb⟩
  have X5 := Lib.hid (X4.out.below hb)
  have D2 := Lib.hid hB2
  have E3 := Lib.hid (fun w1 (h : Below w5.heap.size w5 w1) => K3.out a2 c2 w1 (D2.out.more h) hl2)
  clear x0 x1 x2 x3 x4 x5 x6 x7 x8 x9 x10 hB2 hb E2 K3
  have hX := X5.out
  unfold MAskIn at hX
  obtain ⟨x0, x1, x2, x3, x4, x5, x6, x7, x8, x9, x10⟩ := hX
  have TD := Lib.hid (show Below w5.heap.size w5 w5.drew ∧ w5.drew.cell? ⟨p, 6, none⟩ = some (.int .i64 x.k) ∧ w5.drew.cell? ⟨p, 7, none⟩ = some (.int .i64 x.batch) from ⟨(Below.refl _ _).drew, x6, x7⟩)
  clear x0 x1 x2 x3 x4 x5 x6 x7 x8 x9 x10 hl2
  go_upto_region 3 with fail
  go_region_held3 (fun w' => Below w5.heap.size w5 w' ∧ w'.cell? ⟨p, 6, none⟩ = some (.int .i64 x.k) ∧ w'.cell? ⟨p, 7, none⟩ = some (.int .i64 x.batch))
    (first | assumption | exact TD.out | exact as_carry (by assumption) (by assumption))
    (first
      | (go_at_call 37; (with_reducible refine (E3.out _ (And.left (by assumption))).mono ?_); rintro e w' ⟨a3, c3, rfl, hl3, hB3, hb3⟩)
      | (go_at_call 37; (with_reducible refine (K4.out _ _ _ (by assumption) (by assumption)).mono ?_); rintro e w' ⟨a4, c4, rfl, hl4, hB4, hb4⟩)
      | fail)
  all_goals
    have hS : Below w5.heap.size w5 w' ∧ w'.cell? ⟨p, 6, none⟩ = some (.int .i64 x.k) ∧ w'.cell? ⟨p, 7, none⟩ = some (.int .i64 x.batch) := by assumption
    have X6 := Lib.hid (X5.out.below hS.1)
    have E5 := Lib.hid (K5.out a4 c4 w' hB4 hl4)
    clear hS hB3 hb3 hB4 hb4 hl3 hl4 K4 K5 E3 TD
    have hX := X6.out
    unfold MAskIn at hX
    obtain ⟨x0, x1, x2, x3, x4, x5, x6, x7, x8, x9, x10⟩ := hX
    go_wp2_with fail
    with_reducible refine E5.out.mono ?_
    rintro e w6 ⟨a5, c5, rfl, hl5, hB5, hb⟩
    have X7 := Lib.hid (X6.out.below hb)
    have D5 := Lib.hid hB5
    have E6 := Lib.hid (fun w1 (h : Below w6.heap.size w6 w1) => K6.out a5 c5 w1 (D5.out.more h) hl5)
    clear x0 x1 x2 x3 x4 x5 x6 x7 x8 x9 x10 hB5 hb E5 K6 hl5
    have hX := X7.out
    unfold MAskIn at hX
    obtain ⟨x0, x1, x2, x3, x4, x5, x6, x7, x8, x9, x10⟩ := hX
    have TE := Lib.hid (show Below w6.heap.size w6 w6.drew ∧ w6.drew.cell? ⟨p, 9, none⟩ = some (.int .i64 x.ad) ∧ w6.drew.cell? ⟨p, 10, none⟩ = some (.string x.aw) from ⟨(Below.refl _ _).drew, x9, x10⟩)
    clear x0 x1 x2 x3 x4 x5 x6 x7 x8 x9 x10
    go_upto_region 5 with fail
    go_region_held3 (fun w' => Below w6.heap.size w6 w' ∧ w'.cell? ⟨p, 9, none⟩ = some (.int .i64 x.ad) ∧ w'.cell? ⟨p, 10, none⟩ = some (.string x.aw))
      (first | assumption | exact TE.out | exact as_carry (by assumption) (by assumption))
      (first
        | (go_at_call 37; (with_reducible refine (E6.out _ (And.left (by assumption))).mono ?_); rintro e w' ⟨a6, c6, rfl, hl6, hB6, hb6⟩)
        | (go_at_call 89; (with_reducible refine (K7.out _ _ _ (by assumption) (by assumption)).mono ?_); rintro e w' ⟨a7, c7, rfl, hl7, hB7, hb7⟩)
        | fail)
    all_goals
      have FF := Lib.hid (show RBB w w o m (.returned (.slice a7 m c7)) _ from ⟨a7, c7, rfl, hl7, hB7, hB7.b⟩)
      clear hB6 hb6 hB7 hb7 hl6 hl7
      go_wp2_with fail
      go_ret
      exact FF.out
end Go.Proofs.Ythboiklcjpnhbaa
/- messages in the document: replied (by gen/md4.py) -/
namespace Go.Proofs.Ythboiklcjpnhbaa
open Go.RowKit
set_option linter.unusedVariables false
set_option maxRecDepth 20000
set_option maxHeartbeats 12800000 in
set_option maxRecDepth 100000 in
theorem dReplied (y : RepP) (o : List Nat) (m : Nat) (w : World) (hh : HoldsK w y.ia y.n y.items) (hs : ∀ k ∈ y.items, k.2.size ≤ 1100) (hn : y.n ≤ 8) (ho : repB y = o) (hm : o.length = m) :
    Calls Try.prog 68 #[agReply y] w (RBB w w o m) := by
  obtain ⟨y0, y1, y2, y3, y4, y5, ia, n, ic, ks, yf⟩ := y
  simp only at hh hs hn
  have hlen : ks.length = n := hh.len
  have CF := Lib.hid (fun w1 => dfours _ 6 6 [y0, y1, y2, y3, y4, y5] 24 _ (holdsI_lit w1 [y0, y1, y2, y3, y4, y5] 3 (0, 0)) (by omega) (by omega))
  obtain ⟨o1, ho1⟩ : ∃ o1, nsB [y0, y1, y2, y3, y4, y5] = o1 := ⟨_, rfl⟩
  have o1l : o1.length = 24 := by rw [← ho1, nsB_len]; rfl
  rw [ho1] at CF
  obtain ⟨o2, ho2⟩ : ∃ o2, o1 ++ n1 (n : Int) = o2 := ⟨_, rfl⟩
  have o2l : o2.length = 25 := by rw [← ho2, List.length_append, n1_len, o1l]
  have hO : (o2 ++ itsB ks) ++ fB yf = o := by rw [← ho, ← ho2, ← ho1, ← hlen]; rfl
  have K2 := Lib.hid (fun a c w1 (h : BB w o1 a c w1) => dput (n : Int) 1 1 rfl (by omega) o2 25 h o1l (by omega) ho2 rfl)
  have HO := Lib.hid hO; have HM := Lib.hid hm; have O2L := Lib.hid o2l
  obtain ⟨w3, hw3⟩ : ∃ w3, w.alloc (.cells #[.int .i64 y0, .int .i64 y1, .int .i64 y2, .int .i64 y3, .int .i64 y4, .int .i64 y5, .slice ia n ic, .bool yf] 32) = w3 := ⟨_, rfl⟩
  have BX := Lib.hid (show Below w.heap.size w w3 from hw3 ▸ below_one w _)
  have XI := Lib.hid (show ReplyIn w3 w.heap.size ⟨y0, y1, y2, y3, y4, y5, ia, n, ic, ks, yf⟩ from hw3 ▸ ReplyIn_new _ ⟨y0, y1, y2, y3, y4, y5, ia, n, ic, ks, yf⟩ _ _ (0, 0) rfl)
  have HH := Lib.hid hh; have HS := Lib.hid hs; have HL := Lib.hid hlen
  clear ho hm ho1 ho2 hO hh hs hlen o1l o2l
  go_enter Try.func68, Try.ntmps68
  go_upto_region 1 with fail
  try rw [hw3]
  clear hw3
  obtain ⟨p, hp⟩ : ∃ p, w.heap.size = p := ⟨_, rfl⟩
  rw [hp] at XI
  try simp only [hp]
  clear hp
  have hX := XI.out
  unfold ReplyIn at hX
  obtain ⟨x0, x1, x2, x3, x4, x5, x6, x7⟩ := hX
  simp only at x0 x1 x2 x3 x4 x5 x6 x7
  go_wp2_with fail
  have hb4 := below_one w3 (.cells #[.int .i64 y0, .int .i64 y1, .int .i64 y2, .int .i64 y3, .int .i64 y4, .int .i64 y5] 3)
  have CF' := Lib.hid (CF.out w3)
  refine CF'.out.mono ?_
  rintro e w4 ⟨a1, c1, rfl, hl1, hB1, hb⟩
  have hb5 := hb4.trans (hb.mono hb4.size)
  have X4 := Lib.hid (XI.out.below hb5)
  have E2 := Lib.hid (K2.out a1 c1 w4 (hB1.rebase (BX.out.trans (hb4.mono BX.out.size))))
  clear x0 x1 x2 x3 x4 x5 x6 x7 hb4 CF CF' hB1 hb hb5 hl1 K2
  have hX := X4.out
  unfold ReplyIn at hX
  obtain ⟨x0, x1, x2, x3, x4, x5, x6, x7⟩ := hX
  simp only at x0 x1 x2 x3 x4 x5 x6 x7
  go_wp2_with fail
  with_reducible refine E2.out.mono ?_
  rintro e w5 ⟨a2, c2, rfl, hl2, hB2, hb⟩
  have X5 := Lib.hid (X4.out.below hb)
  have D2 := Lib.hid hB2
  clear x0 x1 x2 x3 x4 x5 x6 x7 hB2 hb E2 hl2
  go_wp2_with fail
  go_loopw [3, 4] (fun bv iv wr => ∃ (j k : Nat) (bs : List Nat) (ba : Option Addr) (bc : Nat), j ≤ n ∧ bv = .slice ba k bc ∧ iv = .int .i64 (j : Int) ∧ k ≤ 25 + 1103 * j ∧ Hid (bs.length = k) ∧ Hid (bs = o2 ++ itsB (ks.take j)) ∧ Hid (BB w bs ba bc wr) ∧ Hid (Below w5.heap.size w5 wr)) (fun _ iv _ => n - (intOf iv).toNat)
  case atStart => exact ⟨0, 25, o2, a2, c2, by omega, rfl, rfl, by omega, O2L, Lib.hid (by simp [itsB]), D2, Lib.hid (Below.refl _ _)⟩
  case round =>
    obtain ⟨j, k, bs, ba, bc, hj, rfl, rfl, hk4, hk, hbs, hB, hW⟩ := hrel
    rename World => wr
    have x6 := cellD (show w5.cell? ⟨p, 6, none⟩ = some (.slice ia n ic) from X5.out.2.2.2.2.2.2.1) hW.out
    have x7 := cellD (show w5.cell? ⟨p, 7, none⟩ = some (.bool yf) from X5.out.2.2.2.2.2.2.2) hW.out
    by_cases hlt : j < n
    · obtain ⟨qb, qo, rfl, hcc⟩ := (HH.out.below hB.out.b).at (by omega)
      obtain ⟨y0', y1'⟩ := hcc j hlt
      obtain ⟨kk, hkk⟩ : ∃ k, ks.getD j k0 = k := ⟨_, rfl⟩
      have hks := HS.out kk (by rw [← hkk]; exact getD_memK ks j (by rw [HL.out]; exact hlt))
      have hsn := itsB_snoc ks j (by rw [HL.out]; exact hlt)
      rw [hkk] at y0' y1' hsn
      obtain ⟨k1, k2⟩ := kk
      simp only at y0' y1' hks
      obtain ⟨ob, hob⟩ : ∃ ob, bs ++ n1 k1 = ob := ⟨_, rfl⟩
      have obl : ob.length = k + 1 := by rw [← hob, List.length_append, n1_len, hk.out]
      obtain ⟨oc, hoc⟩ : ∃ oc, ob ++ tB k2 = oc := ⟨_, rfl⟩
      have HOC := Lib.hid (show oc = o2 ++ itsB (ks.take (j + 1)) from by rw [← hoc, ← hob, hsn, hbs.out]; unfold itB; simp only [List.append_assoc])
      obtain ⟨k', hk'⟩ : ∃ k', k + 1 = k' := ⟨_, rfl⟩
      obtain ⟨k'', hk''⟩ : ∃ k'', k' + (2 + k2.size) = k'' := ⟨_, rfl⟩
      rw [hk'] at obl
      have KB := Lib.hid (show k'' ≤ 25 + 1103 * (j + 1) from by omega)
      have E1 := Lib.hid (fun w1 (h : Below wr.heap.size wr w1) => dput k1 1 1 rfl (by omega) ob k' (hB.out.more h) hk.out (by omega) hob hk')
      have E2 := Lib.hid (fun a c w1 (h : BB w ob a c w1) => dtext k2 oc k'' h obl (by omega) hks hoc hk'')
      have n1' : (0 : Int) ≤ (j : Int) := by omega
      have n2' : (j : Int) < (n : Int) := by omega
      have TD := Lib.hid (show Below wr.heap.size wr wr.drew ∧ wr.drew.cell? ⟨p, 6, none⟩ = some (.slice (some ⟨qb, qo, none⟩) n ic) ∧ wr.drew.cell? ⟨qb, qo + j * 2, none⟩ = some (.int .i64 k1) ∧ wr.drew.cell? ⟨qb, qo + j * 2 + 1, none⟩ = some (.string k2) from ⟨(Below.refl _ _).drew, x6, y0', y1'⟩)
      clear hcc hkk hsn hob obl hoc hk' hk'' hk4
      go_upto_region 6 with fail
      clear x6 x7 y0' y1'
      go_region_held3 (fun w' => Below wr.heap.size wr w' ∧ w'.cell? ⟨p, 6, none⟩ = some (.slice (some ⟨qb, qo, none⟩) n ic) ∧ w'.cell? ⟨qb, qo + j * 2, none⟩ = some (.int .i64 k1) ∧ w'.cell? ⟨qb, qo + j * 2 + 1, none⟩ = some (.string k2))
        (first | assumption | exact TD.out | exact mr_carry1 (by assumption) (by assumption))
        (first
          | (go_at_call 37; (with_reducible refine (E1.out _ (And.left (by assumption))).mono ?_); rintro e w' ⟨a6, c6, rfl, hl6, hB6, hb6⟩)
          | (go_at_call 89; (with_reducible refine (E2.out _ _ _ (by assumption)).mono ?_); rintro e w' ⟨a7, c7, rfl, hl7, hB7, hb7⟩)
          | fail)
      all_goals
        have hS : Below wr.heap.size wr w' ∧ w'.cell? ⟨p, 6, none⟩ = some (.slice (some ⟨qb, qo, none⟩) n ic) ∧ w'.cell? ⟨qb, qo + j * 2, none⟩ = some (.int .i64 k1) ∧ w'.cell? ⟨qb, qo + j * 2 + 1, none⟩ = some (.string k2) := by assumption
        have B7 := Lib.hid hB7; have L7 := Lib.hid hl7
        have W7 := Lib.hid (hW.out.trans (hS.1.mono hW.out.size))
        clear hS hB6 hb6 hB7 hb7 hl6 hl7 E1 E2 TD
        go_wp2_with fail
        go_roundw
        case rel => exact ⟨j + 1, k'', oc, a7, c7, by omega, rfl, by go_num, KB.out, L7, HOC, B7, W7⟩
        case measure => simp [intOf] <;> omega
    · obtain rfl : j = n := by omega
      have HT : ks.take j = ks := by rw [← HL.out]; exact List.take_length
      have CF := Lib.hid (dflag yf o m hB.out hk.out (by omega) (by rw [hbs.out, HT]; exact HO.out) (by rw [← HM.out, ← HO.out, List.length_append, fB_len, ← hk.out, hbs.out, HT]))
      clear HT
      go_wp2_with fail
      with_reducible refine CF.out.mono ?_
      rintro e w6 ⟨a6, c6, rfl, hl6, hB6, hb6⟩
      have FF := Lib.hid (show RBB w w o m (.returned (.slice a6 m c6)) w6 from ⟨a6, c6, rfl, hl6, hB6, hB6.b⟩)
      clear hl6 hB6 hb6
      go_wp2_with fail
      go_ret
      exact FF.out
end Go.Proofs.Ythboiklcjpnhbaa
/- messages in the document: May, body, Of (by gen/md5.py) -/
namespace Go.Proofs.Ythboiklcjpnhbaa
open Go.RowKit
set_option linter.unusedVariables false
set_option maxRecDepth 20000
set_option maxRecDepth 100000
def msgC : MsgV → Value
  | .hello a b => .agg #[.int .i64 1, .int .i64 a, .int .i64 b, .int .i64 0, .int .i64 0, .int .i64 0, .int .i64 0, .int .i64 0, .int .i64 0, .int .i64 0, .int .i64 0, .string ⟨#[]⟩, .int .i64 0, .int .i64 0, .bool false, .int .i64 0, .string ⟨#[]⟩, .int .i64 0, .int .i64 0, .int .i64 0, .int .i64 0, .int .i64 0, .int .i64 0, .slice .none 0 0, .bool false, .int .i64 0, .int .i64 0]
  | .grant a b c => .agg #[.int .i64 2, .int .i64 0, .int .i64 0, .int .i64 a, .int .i64 b, .int .i64 c, .int .i64 0, .int .i64 0, .int .i64 0, .int .i64 0, .int .i64 0, .string ⟨#[]⟩, .int .i64 0, .int .i64 0, .bool false, .int .i64 0, .string ⟨#[]⟩, .int .i64 0, .int .i64 0, .int .i64 0, .int .i64 0, .int .i64 0, .int .i64 0, .slice .none 0 0, .bool false, .int .i64 0, .int .i64 0]
  | .ask x => .agg #[.int .i64 3, .int .i64 0, .int .i64 0, .int .i64 0, .int .i64 0, .int .i64 0, .int .i64 x.slot, .int .i64 x.query, .int .i64 x.shard, .int .i64 x.seq, .int .i64 x.epoch, .string x.text, .int .i64 x.k, .int .i64 x.batch, .bool x.first, .int .i64 x.ad, .string x.aw, .int .i64 0, .int .i64 0, .int .i64 0, .int .i64 0, .int .i64 0, .int .i64 0, .slice .none 0 0, .bool false, .int .i64 0, .int .i64 0]
  | .reply x => .agg #[.int .i64 4, .int .i64 0, .int .i64 0, .int .i64 0, .int .i64 0, .int .i64 0, .int .i64 0, .int .i64 0, .int .i64 0, .int .i64 0, .int .i64 0, .string ⟨#[]⟩, .int .i64 0, .int .i64 0, .bool false, .int .i64 0, .string ⟨#[]⟩, .int .i64 x.slot, .int .i64 x.query, .int .i64 x.shard, .int .i64 x.seq, .int .i64 x.worker, .int .i64 x.epoch, .slice x.ia x.n x.ic, .bool x.fin, .int .i64 0, .int .i64 0]
  | .stop a b => .agg #[.int .i64 5, .int .i64 0, .int .i64 0, .int .i64 0, .int .i64 0, .int .i64 0, .int .i64 0, .int .i64 0, .int .i64 0, .int .i64 0, .int .i64 0, .string ⟨#[]⟩, .int .i64 0, .int .i64 0, .bool false, .int .i64 0, .string ⟨#[]⟩, .int .i64 0, .int .i64 0, .int .i64 0, .int .i64 0, .int .i64 0, .int .i64 0, .slice .none 0 0, .bool false, .int .i64 a, .int .i64 b]
  | .num _ => .agg #[.int .i64 0, .int .i64 0, .int .i64 0, .int .i64 0, .int .i64 0, .int .i64 0, .int .i64 0, .int .i64 0, .int .i64 0, .int .i64 0, .int .i64 0, .string ⟨#[]⟩, .int .i64 0, .int .i64 0, .bool false, .int .i64 0, .string ⟨#[]⟩, .int .i64 0, .int .i64 0, .int .i64 0, .int .i64 0, .int .i64 0, .int .i64 0, .slice .none 0 0, .bool false, .int .i64 0, .int .i64 0]
  | .none => .agg #[.int .i64 0, .int .i64 0, .int .i64 0, .int .i64 0, .int .i64 0, .int .i64 0, .int .i64 0, .int .i64 0, .int .i64 0, .int .i64 0, .int .i64 0, .string ⟨#[]⟩, .int .i64 0, .int .i64 0, .bool false, .int .i64 0, .string ⟨#[]⟩, .int .i64 0, .int .i64 0, .int .i64 0, .int .i64 0, .int .i64 0, .int .i64 0, .slice .none 0 0, .bool false, .int .i64 0, .int .i64 0]
set_option maxHeartbeats 3200000 in
theorem rMay_Hello (a b : Int) (z : Bool) (w : World) (h : mayHello a b = z) :
    Calls Try.prog 20 #[.agg #[.int .i64 1, .int .i64 a, .int .i64 b, .int .i64 0, .int .i64 0, .int .i64 0, .int .i64 0, .int .i64 0, .int .i64 0, .int .i64 0, .int .i64 0, .string ⟨#[]⟩, .int .i64 0, .int .i64 0, .bool false, .int .i64 0, .string ⟨#[]⟩, .int .i64 0, .int .i64 0, .int .i64 0, .int .i64 0, .int .i64 0, .int .i64 0, .slice .none 0 0, .bool false, .int .i64 0, .int .i64 0]] w fun e w' => e = .returned (.bool z) ∧ Below w.heap.size w w' := by
  have h : (inR a 1 5 && allN [b]) = z := by rw [← h]; unfold mayHello allN; simp only [List.all_cons, List.all_nil, Bool.and_true]
  obtain ⟨z1, h1⟩ : ∃ z, inR a 1 5 = z := ⟨_, rfl⟩
  obtain ⟨z2, h2⟩ : ∃ z, allN [b] = z := ⟨_, rfl⟩
  rw [h1, h2] at h
  obtain ⟨w3, hw3⟩ : ∃ w3, w.alloc (.cells #[.int .i64 1, .int .i64 a, .int .i64 b, .int .i64 0, .int .i64 0, .int .i64 0, .int .i64 0, .int .i64 0, .int .i64 0, .int .i64 0, .int .i64 0, .string ⟨#[]⟩, .int .i64 0, .int .i64 0, .bool false, .int .i64 0, .string ⟨#[]⟩, .int .i64 0, .int .i64 0, .int .i64 0, .int .i64 0, .int .i64 0, .int .i64 0, .slice .none 0 0, .bool false, .int .i64 0, .int .i64 0] 46) = w3 := ⟨_, rfl⟩
  have BX := Lib.hid (show Below w.heap.size w w3 from hw3 ▸ below_one w _)
  have x0 : w3.cell? ⟨w.heap.size, 0, none⟩ = some (.int .i64 1) := by rw [← hw3, World.cell?_alloc_mark]; rfl
  have x1 : w3.cell? ⟨w.heap.size, 1, none⟩ = some (.int .i64 a) := by rw [← hw3, World.cell?_alloc_mark]; rfl
  have x2 : w3.cell? ⟨w.heap.size, 2, none⟩ = some (.int .i64 b) := by rw [← hw3, World.cell?_alloc_mark]; rfl
  obtain ⟨p, hp⟩ : ∃ p, w.heap.size = p := ⟨_, rfl⟩
  rw [hp] at x0 x1 x2
  have C1 := Lib.hid (fun w => rin_lit a 1 5 z1 w h1)
  have C2 := Lib.hid (rnums_any _ 1 1 [b] z2 _ (holdsI_lit w3 [b] 3 (0, 0)) (by omega) h2)
  have BY := Lib.hid (BX.out.trans ((below_one w3 (.cells #[.int .i64 b] 3)).mono BX.out.size))
  clear h1 h2
  cases z1
  · obtain rfl : z = false := by rw [← h]; simp
    clear h C2
    go_enter Try.func20, Try.ntmps20
    go_upto_region 1 with fail
    try rw [hw3]
    try simp only [hp]
    clear hw3 hp
    go_wp2_with fail
    refine (C1.out _).mono ?_
    rintro e w' ⟨rfl, rfl⟩
    go_wp2_with fail
    go_ret
    exact ⟨rfl, BX.out⟩
  · obtain rfl : z2 = z := by rw [← h]; rfl
    clear h
    go_enter Try.func20, Try.ntmps20
    go_upto_region 1 with fail
    try rw [hw3]
    try simp only [hp]
    clear hw3 hp
    go_wp2_with fail
    refine (C1.out _).mono ?_
    rintro e w' ⟨rfl, rfl⟩
    go_wp2_with fail
    refine C2.out.mono ?_
    rintro e w' ⟨rfl, hw⟩
    have BZ := Lib.hid (show Below w.heap.size w w' from hw ▸ BY.out)
    clear hw
    go_wp2_with fail
    go_ret
    exact ⟨rfl, BZ.out⟩
set_option maxHeartbeats 3200000 in
theorem rBody_Hello (a b : Int) (o : List Nat) (m : Nat) (w : World) (ho : bodyM (.hello a b) = o) (hm : o.length = m) :
    Calls Try.prog 36 #[.agg #[.int .i64 1, .int .i64 a, .int .i64 b, .int .i64 0, .int .i64 0, .int .i64 0, .int .i64 0, .int .i64 0, .int .i64 0, .int .i64 0, .int .i64 0, .string ⟨#[]⟩, .int .i64 0, .int .i64 0, .bool false, .int .i64 0, .string ⟨#[]⟩, .int .i64 0, .int .i64 0, .int .i64 0, .int .i64 0, .int .i64 0, .int .i64 0, .slice .none 0 0, .bool false, .int .i64 0, .int .i64 0]] w (RBB w w o m) := by
  obtain ⟨w3, hw3⟩ : ∃ w3, w.alloc (.cells #[.int .i64 1, .int .i64 a, .int .i64 b, .int .i64 0, .int .i64 0, .int .i64 0, .int .i64 0, .int .i64 0, .int .i64 0, .int .i64 0, .int .i64 0, .string ⟨#[]⟩, .int .i64 0, .int .i64 0, .bool false, .int .i64 0, .string ⟨#[]⟩, .int .i64 0, .int .i64 0, .int .i64 0, .int .i64 0, .int .i64 0, .int .i64 0, .slice .none 0 0, .bool false, .int .i64 0, .int .i64 0] 46) = w3 := ⟨_, rfl⟩
  have BX := Lib.hid (show Below w.heap.size w w3 from hw3 ▸ below_one w _)
  have x0 : w3.cell? ⟨w.heap.size, 0, none⟩ = some (.int .i64 1) := by rw [← hw3, World.cell?_alloc_mark]; rfl
  have x1 : w3.cell? ⟨w.heap.size, 1, none⟩ = some (.int .i64 a) := by rw [← hw3, World.cell?_alloc_mark]; rfl
  have x2 : w3.cell? ⟨w.heap.size, 2, none⟩ = some (.int .i64 b) := by rw [← hw3, World.cell?_alloc_mark]; rfl
  obtain ⟨p, hp⟩ : ∃ p, w.heap.size = p := ⟨_, rfl⟩
  rw [hp] at x0 x1 x2
  have BX0 := Lib.hid (BX.out.trans ((below_one w3 (.cells #[.int .i64 a, .int .i64 b] 3)).mono BX.out.size))
  have CF := Lib.hid (dfours _ 2 2 [a, b] m _ (holdsI_lit w3 [a, b] 3 (0, 0)) (by omega) (by rw [← hm, ← ho, show bodyM (.hello a b) = nsB [a, b] from rfl, nsB_len]; rfl))
  rw [show nsB [a, b] = o from ho] at CF
  simp only [List.map_cons, List.map_nil] at CF
  clear ho hm
  go_enter Try.func36, Try.ntmps36
  go_upto_region 1 with fail
  try rw [hw3]
  try simp only [hp]
  clear hw3 hp
  go_wp2_with fail
  refine CF.out.mono ?_
  rintro e w' ⟨a2, c2, rfl, hl, hB, hb⟩
  have FF := Lib.hid (show RBB w w o m (.returned (.slice a2 m c2)) w' from ⟨a2, c2, rfl, hl, hB.rebase BX0.out, (hB.rebase BX0.out).b⟩)
  clear hl hB hb
  go_wp2_with fail
  go_ret
  exact FF.out
set_option maxHeartbeats 3200000 in
theorem rMay_Grant (a b c : Int) (z : Bool) (w : World) (h : mayGrant a b c = z) :
    Calls Try.prog 20 #[.agg #[.int .i64 2, .int .i64 0, .int .i64 0, .int .i64 a, .int .i64 b, .int .i64 c, .int .i64 0, .int .i64 0, .int .i64 0, .int .i64 0, .int .i64 0, .string ⟨#[]⟩, .int .i64 0, .int .i64 0, .bool false, .int .i64 0, .string ⟨#[]⟩, .int .i64 0, .int .i64 0, .int .i64 0, .int .i64 0, .int .i64 0, .int .i64 0, .slice .none 0 0, .bool false, .int .i64 0, .int .i64 0]] w fun e w' => e = .returned (.bool z) ∧ Below w.heap.size w w' := by
  have h : (inR a 1 5 && allN [b, c]) = z := by rw [← h]; unfold mayGrant allN; simp only [List.all_cons, List.all_nil, Bool.and_true]; try ac_rfl
  obtain ⟨z1, h1⟩ : ∃ z, inR a 1 5 = z := ⟨_, rfl⟩
  obtain ⟨z2, h2⟩ : ∃ z, allN [b, c] = z := ⟨_, rfl⟩
  rw [h1, h2] at h
  obtain ⟨w3, hw3⟩ : ∃ w3, w.alloc (.cells #[.int .i64 2, .int .i64 0, .int .i64 0, .int .i64 a, .int .i64 b, .int .i64 c, .int .i64 0, .int .i64 0, .int .i64 0, .int .i64 0, .int .i64 0, .string ⟨#[]⟩, .int .i64 0, .int .i64 0, .bool false, .int .i64 0, .string ⟨#[]⟩, .int .i64 0, .int .i64 0, .int .i64 0, .int .i64 0, .int .i64 0, .int .i64 0, .slice .none 0 0, .bool false, .int .i64 0, .int .i64 0] 46) = w3 := ⟨_, rfl⟩
  have BX := Lib.hid (show Below w.heap.size w w3 from hw3 ▸ below_one w _)
  have x0 : w3.cell? ⟨w.heap.size, 0, none⟩ = some (.int .i64 2) := by rw [← hw3, World.cell?_alloc_mark]; rfl
  have x3 : w3.cell? ⟨w.heap.size, 3, none⟩ = some (.int .i64 a) := by rw [← hw3, World.cell?_alloc_mark]; rfl
  have x4 : w3.cell? ⟨w.heap.size, 4, none⟩ = some (.int .i64 b) := by rw [← hw3, World.cell?_alloc_mark]; rfl
  have x5 : w3.cell? ⟨w.heap.size, 5, none⟩ = some (.int .i64 c) := by rw [← hw3, World.cell?_alloc_mark]; rfl
  obtain ⟨p, hp⟩ : ∃ p, w.heap.size = p := ⟨_, rfl⟩
  rw [hp] at x0 x3 x4 x5
  have C1 := Lib.hid (fun w => rin_lit a 1 5 z1 w h1)
  have C2 := Lib.hid (rnums_any _ 2 2 [b, c] z2 _ (holdsI_lit w3 [b, c] 3 (0, 0)) (by omega) h2)
  have BY := Lib.hid (BX.out.trans ((below_one w3 (.cells #[.int .i64 b, .int .i64 c] 3)).mono BX.out.size))
  clear h1 h2
  cases z1
  · obtain rfl : z = false := by rw [← h]; simp
    clear h C2
    go_enter Try.func20, Try.ntmps20
    go_upto_region 1 with fail
    try rw [hw3]
    try simp only [hp]
    clear hw3 hp
    go_wp2_with fail
    refine (C1.out _).mono ?_
    rintro e w' ⟨rfl, rfl⟩
    go_wp2_with fail
    go_ret
    exact ⟨rfl, BX.out⟩
  · obtain rfl : z2 = z := by rw [← h]; rfl
    clear h
    go_enter Try.func20, Try.ntmps20
    go_upto_region 1 with fail
    try rw [hw3]
    try simp only [hp]
    clear hw3 hp
    go_wp2_with fail
    refine (C1.out _).mono ?_
    rintro e w' ⟨rfl, rfl⟩
    go_wp2_with fail
    refine C2.out.mono ?_
    rintro e w' ⟨rfl, hw⟩
    have BZ := Lib.hid (show Below w.heap.size w w' from hw ▸ BY.out)
    clear hw
    go_wp2_with fail
    go_ret
    exact ⟨rfl, BZ.out⟩
set_option maxHeartbeats 3200000 in
theorem rBody_Grant (a b c : Int) (o : List Nat) (m : Nat) (w : World) (ho : bodyM (.grant a b c) = o) (hm : o.length = m) :
    Calls Try.prog 36 #[.agg #[.int .i64 2, .int .i64 0, .int .i64 0, .int .i64 a, .int .i64 b, .int .i64 c, .int .i64 0, .int .i64 0, .int .i64 0, .int .i64 0, .int .i64 0, .string ⟨#[]⟩, .int .i64 0, .int .i64 0, .bool false, .int .i64 0, .string ⟨#[]⟩, .int .i64 0, .int .i64 0, .int .i64 0, .int .i64 0, .int .i64 0, .int .i64 0, .slice .none 0 0, .bool false, .int .i64 0, .int .i64 0]] w (RBB w w o m) := by
  obtain ⟨w3, hw3⟩ : ∃ w3, w.alloc (.cells #[.int .i64 2, .int .i64 0, .int .i64 0, .int .i64 a, .int .i64 b, .int .i64 c, .int .i64 0, .int .i64 0, .int .i64 0, .int .i64 0, .int .i64 0, .string ⟨#[]⟩, .int .i64 0, .int .i64 0, .bool false, .int .i64 0, .string ⟨#[]⟩, .int .i64 0, .int .i64 0, .int .i64 0, .int .i64 0, .int .i64 0, .int .i64 0, .slice .none 0 0, .bool false, .int .i64 0, .int .i64 0] 46) = w3 := ⟨_, rfl⟩
  have BX := Lib.hid (show Below w.heap.size w w3 from hw3 ▸ below_one w _)
  have x0 : w3.cell? ⟨w.heap.size, 0, none⟩ = some (.int .i64 2) := by rw [← hw3, World.cell?_alloc_mark]; rfl
  have x3 : w3.cell? ⟨w.heap.size, 3, none⟩ = some (.int .i64 a) := by rw [← hw3, World.cell?_alloc_mark]; rfl
  have x4 : w3.cell? ⟨w.heap.size, 4, none⟩ = some (.int .i64 b) := by rw [← hw3, World.cell?_alloc_mark]; rfl
  have x5 : w3.cell? ⟨w.heap.size, 5, none⟩ = some (.int .i64 c) := by rw [← hw3, World.cell?_alloc_mark]; rfl
  obtain ⟨p, hp⟩ : ∃ p, w.heap.size = p := ⟨_, rfl⟩
  rw [hp] at x0 x3 x4 x5
  have BX0 := Lib.hid (BX.out.trans ((below_one w3 (.cells #[.int .i64 a, .int .i64 b, .int .i64 c] 3)).mono BX.out.size))
  have CF := Lib.hid (dfours _ 3 3 [a, b, c] m _ (holdsI_lit w3 [a, b, c] 3 (0, 0)) (by omega) (by rw [← hm, ← ho, show bodyM (.grant a b c) = nsB [a, b, c] from rfl, nsB_len]; rfl))
  rw [show nsB [a, b, c] = o from ho] at CF
  simp only [List.map_cons, List.map_nil] at CF
  clear ho hm
  go_enter Try.func36, Try.ntmps36
  go_upto_region 1 with fail
  try rw [hw3]
  try simp only [hp]
  clear hw3 hp
  go_wp2_with fail
  refine CF.out.mono ?_
  rintro e w' ⟨a2, c2, rfl, hl, hB, hb⟩
  have FF := Lib.hid (show RBB w w o m (.returned (.slice a2 m c2)) w' from ⟨a2, c2, rfl, hl, hB.rebase BX0.out, (hB.rebase BX0.out).b⟩)
  clear hl hB hb
  go_wp2_with fail
  go_ret
  exact FF.out
set_option maxHeartbeats 3200000 in
theorem rMay_Ask (x : AskP) (z : Bool) (w : World) (ht : x.text.size ≤ 1100) (ha : x.aw.size ≤ 1100) (h : mayAsk x = z) :
    Calls Try.prog 20 #[.agg #[.int .i64 3, .int .i64 0, .int .i64 0, .int .i64 0, .int .i64 0, .int .i64 0, .int .i64 x.slot, .int .i64 x.query, .int .i64 x.shard, .int .i64 x.seq, .int .i64 x.epoch, .string x.text, .int .i64 x.k, .int .i64 x.batch, .bool x.first, .int .i64 x.ad, .string x.aw, .int .i64 0, .int .i64 0, .int .i64 0, .int .i64 0, .int .i64 0, .int .i64 0, .slice .none 0 0, .bool false, .int .i64 0, .int .i64 0]] w fun e w' => e = .returned (.bool z) ∧ Below w.heap.size w w' := by
  obtain ⟨w3, hw3⟩ : ∃ w3, w.alloc (.cells #[.int .i64 3, .int .i64 0, .int .i64 0, .int .i64 0, .int .i64 0, .int .i64 0, .int .i64 x.slot, .int .i64 x.query, .int .i64 x.shard, .int .i64 x.seq, .int .i64 x.epoch, .string x.text, .int .i64 x.k, .int .i64 x.batch, .bool x.first, .int .i64 x.ad, .string x.aw, .int .i64 0, .int .i64 0, .int .i64 0, .int .i64 0, .int .i64 0, .int .i64 0, .slice .none 0 0, .bool false, .int .i64 0, .int .i64 0] 46) = w3 := ⟨_, rfl⟩
  have BX := Lib.hid (show Below w.heap.size w w3 from hw3 ▸ below_one w _)
  have x0 : w3.cell? ⟨w.heap.size, 0, none⟩ = some (.int .i64 3) := by rw [← hw3, World.cell?_alloc_mark]; rfl
  have x6 : w3.cell? ⟨w.heap.size, 6, none⟩ = some (.int .i64 x.slot) := by rw [← hw3, World.cell?_alloc_mark]; rfl
  have x7 : w3.cell? ⟨w.heap.size, 7, none⟩ = some (.int .i64 x.query) := by rw [← hw3, World.cell?_alloc_mark]; rfl
  have x8 : w3.cell? ⟨w.heap.size, 8, none⟩ = some (.int .i64 x.shard) := by rw [← hw3, World.cell?_alloc_mark]; rfl
  have x9 : w3.cell? ⟨w.heap.size, 9, none⟩ = some (.int .i64 x.seq) := by rw [← hw3, World.cell?_alloc_mark]; rfl
  have x10 : w3.cell? ⟨w.heap.size, 10, none⟩ = some (.int .i64 x.epoch) := by rw [← hw3, World.cell?_alloc_mark]; rfl
  have x11 : w3.cell? ⟨w.heap.size, 11, none⟩ = some (.string x.text) := by rw [← hw3, World.cell?_alloc_mark]; rfl
  have x12 : w3.cell? ⟨w.heap.size, 12, none⟩ = some (.int .i64 x.k) := by rw [← hw3, World.cell?_alloc_mark]; rfl
  have x13 : w3.cell? ⟨w.heap.size, 13, none⟩ = some (.int .i64 x.batch) := by rw [← hw3, World.cell?_alloc_mark]; rfl
  have x14 : w3.cell? ⟨w.heap.size, 14, none⟩ = some (.bool x.first) := by rw [← hw3, World.cell?_alloc_mark]; rfl
  have x15 : w3.cell? ⟨w.heap.size, 15, none⟩ = some (.int .i64 x.ad) := by rw [← hw3, World.cell?_alloc_mark]; rfl
  have x16 : w3.cell? ⟨w.heap.size, 16, none⟩ = some (.string x.aw) := by rw [← hw3, World.cell?_alloc_mark]; rfl
  obtain ⟨p, hp⟩ : ∃ p, w.heap.size = p := ⟨_, rfl⟩
  rw [hp] at x0 x6 x7 x8 x9 x10 x11 x12 x13 x14 x15 x16
  have CC := Lib.hid (rMayAsk x z w3 (by omega) (by omega) h)
  clear h
  go_enter Try.func20, Try.ntmps20
  go_upto_region 1 with fail
  try rw [hw3]
  try simp only [hp]
  clear hw3 hp
  go_wp2_with fail
  with_reducible refine CC.out.mono ?_
  rintro e w' ⟨rfl, hb⟩
  have B2 := Lib.hid (BX.out.trans (hb.mono BX.out.size))
  clear hb CC
  go_wp2_with fail
  go_ret
  exact ⟨rfl, B2.out⟩
set_option maxHeartbeats 3200000 in
theorem rBody_Ask (x : AskP) (o : List Nat) (m : Nat) (w : World) (ht : x.text.size ≤ 1100) (ha : x.aw.size ≤ 1100) (ho : bodyM (.ask x) = o) (hm : o.length = m) :
    Calls Try.prog 36 #[.agg #[.int .i64 3, .int .i64 0, .int .i64 0, .int .i64 0, .int .i64 0, .int .i64 0, .int .i64 x.slot, .int .i64 x.query, .int .i64 x.shard, .int .i64 x.seq, .int .i64 x.epoch, .string x.text, .int .i64 x.k, .int .i64 x.batch, .bool x.first, .int .i64 x.ad, .string x.aw, .int .i64 0, .int .i64 0, .int .i64 0, .int .i64 0, .int .i64 0, .int .i64 0, .slice .none 0 0, .bool false, .int .i64 0, .int .i64 0]] w (RBB w w o m) := by
  obtain ⟨w3, hw3⟩ : ∃ w3, w.alloc (.cells #[.int .i64 3, .int .i64 0, .int .i64 0, .int .i64 0, .int .i64 0, .int .i64 0, .int .i64 x.slot, .int .i64 x.query, .int .i64 x.shard, .int .i64 x.seq, .int .i64 x.epoch, .string x.text, .int .i64 x.k, .int .i64 x.batch, .bool x.first, .int .i64 x.ad, .string x.aw, .int .i64 0, .int .i64 0, .int .i64 0, .int .i64 0, .int .i64 0, .int .i64 0, .slice .none 0 0, .bool false, .int .i64 0, .int .i64 0] 46) = w3 := ⟨_, rfl⟩
  have BX := Lib.hid (show Below w.heap.size w w3 from hw3 ▸ below_one w _)
  have x0 : w3.cell? ⟨w.heap.size, 0, none⟩ = some (.int .i64 3) := by rw [← hw3, World.cell?_alloc_mark]; rfl
  have x6 : w3.cell? ⟨w.heap.size, 6, none⟩ = some (.int .i64 x.slot) := by rw [← hw3, World.cell?_alloc_mark]; rfl
  have x7 : w3.cell? ⟨w.heap.size, 7, none⟩ = some (.int .i64 x.query) := by rw [← hw3, World.cell?_alloc_mark]; rfl
  have x8 : w3.cell? ⟨w.heap.size, 8, none⟩ = some (.int .i64 x.shard) := by rw [← hw3, World.cell?_alloc_mark]; rfl
  have x9 : w3.cell? ⟨w.heap.size, 9, none⟩ = some (.int .i64 x.seq) := by rw [← hw3, World.cell?_alloc_mark]; rfl
  have x10 : w3.cell? ⟨w.heap.size, 10, none⟩ = some (.int .i64 x.epoch) := by rw [← hw3, World.cell?_alloc_mark]; rfl
  have x11 : w3.cell? ⟨w.heap.size, 11, none⟩ = some (.string x.text) := by rw [← hw3, World.cell?_alloc_mark]; rfl
  have x12 : w3.cell? ⟨w.heap.size, 12, none⟩ = some (.int .i64 x.k) := by rw [← hw3, World.cell?_alloc_mark]; rfl
  have x13 : w3.cell? ⟨w.heap.size, 13, none⟩ = some (.int .i64 x.batch) := by rw [← hw3, World.cell?_alloc_mark]; rfl
  have x14 : w3.cell? ⟨w.heap.size, 14, none⟩ = some (.bool x.first) := by rw [← hw3, World.cell?_alloc_mark]; rfl
  have x15 : w3.cell? ⟨w.heap.size, 15, none⟩ = some (.int .i64 x.ad) := by rw [← hw3, World.cell?_alloc_mark]; rfl
  have x16 : w3.cell? ⟨w.heap.size, 16, none⟩ = some (.string x.aw) := by rw [← hw3, World.cell?_alloc_mark]; rfl
  obtain ⟨p, hp⟩ : ∃ p, w.heap.size = p := ⟨_, rfl⟩
  rw [hp] at x0 x6 x7 x8 x9 x10 x11 x12 x13 x14 x15 x16
  have BX0 := Lib.hid BX.out
  have CF := Lib.hid (dAsked x o m w3 ht ha ho hm)
  clear ho hm
  go_enter Try.func36, Try.ntmps36
  go_upto_region 1 with fail
  try rw [hw3]
  try simp only [hp]
  clear hw3 hp
  go_wp2_with fail
  with_reducible refine CF.out.mono ?_
  rintro e w' ⟨a2, c2, rfl, hl, hB, hb⟩
  have FF := Lib.hid (show RBB w w o m (.returned (.slice a2 m c2)) w' from ⟨a2, c2, rfl, hl, hB.rebase BX0.out, (hB.rebase BX0.out).b⟩)
  clear hl hB hb
  go_wp2_with fail
  go_ret
  exact FF.out
set_option maxHeartbeats 3200000 in
theorem rMay_Reply (x : RepP) (z : Bool) (w : World) (hh : HoldsK w x.ia x.n x.items) (hs : ∀ k ∈ x.items, k.2.size ≤ 1100) (hn : x.n ≤ 1048576) (h : mayReply x = z) :
    Calls Try.prog 20 #[.agg #[.int .i64 4, .int .i64 0, .int .i64 0, .int .i64 0, .int .i64 0, .int .i64 0, .int .i64 0, .int .i64 0, .int .i64 0, .int .i64 0, .int .i64 0, .string ⟨#[]⟩, .int .i64 0, .int .i64 0, .bool false, .int .i64 0, .string ⟨#[]⟩, .int .i64 x.slot, .int .i64 x.query, .int .i64 x.shard, .int .i64 x.seq, .int .i64 x.worker, .int .i64 x.epoch, .slice x.ia x.n x.ic, .bool x.fin, .int .i64 0, .int .i64 0]] w fun e w' => e = .returned (.bool z) ∧ Below w.heap.size w w' := by
  obtain ⟨w3, hw3⟩ : ∃ w3, w.alloc (.cells #[.int .i64 4, .int .i64 0, .int .i64 0, .int .i64 0, .int .i64 0, .int .i64 0, .int .i64 0, .int .i64 0, .int .i64 0, .int .i64 0, .int .i64 0, .string ⟨#[]⟩, .int .i64 0, .int .i64 0, .bool false, .int .i64 0, .string ⟨#[]⟩, .int .i64 x.slot, .int .i64 x.query, .int .i64 x.shard, .int .i64 x.seq, .int .i64 x.worker, .int .i64 x.epoch, .slice x.ia x.n x.ic, .bool x.fin, .int .i64 0, .int .i64 0] 46) = w3 := ⟨_, rfl⟩
  have BX := Lib.hid (show Below w.heap.size w w3 from hw3 ▸ below_one w _)
  have x0 : w3.cell? ⟨w.heap.size, 0, none⟩ = some (.int .i64 4) := by rw [← hw3, World.cell?_alloc_mark]; rfl
  have x17 : w3.cell? ⟨w.heap.size, 17, none⟩ = some (.int .i64 x.slot) := by rw [← hw3, World.cell?_alloc_mark]; rfl
  have x18 : w3.cell? ⟨w.heap.size, 18, none⟩ = some (.int .i64 x.query) := by rw [← hw3, World.cell?_alloc_mark]; rfl
  have x19 : w3.cell? ⟨w.heap.size, 19, none⟩ = some (.int .i64 x.shard) := by rw [← hw3, World.cell?_alloc_mark]; rfl
  have x20 : w3.cell? ⟨w.heap.size, 20, none⟩ = some (.int .i64 x.seq) := by rw [← hw3, World.cell?_alloc_mark]; rfl
  have x21 : w3.cell? ⟨w.heap.size, 21, none⟩ = some (.int .i64 x.worker) := by rw [← hw3, World.cell?_alloc_mark]; rfl
  have x22 : w3.cell? ⟨w.heap.size, 22, none⟩ = some (.int .i64 x.epoch) := by rw [← hw3, World.cell?_alloc_mark]; rfl
  have x23 : w3.cell? ⟨w.heap.size, 23, none⟩ = some (.slice x.ia x.n x.ic) := by rw [← hw3, World.cell?_alloc_mark]; rfl
  have x24 : w3.cell? ⟨w.heap.size, 24, none⟩ = some (.bool x.fin) := by rw [← hw3, World.cell?_alloc_mark]; rfl
  obtain ⟨p, hp⟩ : ∃ p, w.heap.size = p := ⟨_, rfl⟩
  rw [hp] at x0 x17 x18 x19 x20 x21 x22 x23 x24
  have CC := Lib.hid (rMayReply x z w3 (hh.below BX.out) hs hn h)
  clear h
  go_enter Try.func20, Try.ntmps20
  go_upto_region 1 with fail
  try rw [hw3]
  try simp only [hp]
  clear hw3 hp
  go_wp2_with fail
  with_reducible refine CC.out.mono ?_
  rintro e w' ⟨rfl, hb⟩
  have B2 := Lib.hid (BX.out.trans (hb.mono BX.out.size))
  clear hb CC
  go_wp2_with fail
  go_ret
  exact ⟨rfl, B2.out⟩
set_option maxHeartbeats 3200000 in
theorem rBody_Reply (x : RepP) (o : List Nat) (m : Nat) (w : World) (hh : HoldsK w x.ia x.n x.items) (hs : ∀ k ∈ x.items, k.2.size ≤ 1100) (hn : x.n ≤ 8) (ho : bodyM (.reply x) = o) (hm : o.length = m) :
    Calls Try.prog 36 #[.agg #[.int .i64 4, .int .i64 0, .int .i64 0, .int .i64 0, .int .i64 0, .int .i64 0, .int .i64 0, .int .i64 0, .int .i64 0, .int .i64 0, .int .i64 0, .string ⟨#[]⟩, .int .i64 0, .int .i64 0, .bool false, .int .i64 0, .string ⟨#[]⟩, .int .i64 x.slot, .int .i64 x.query, .int .i64 x.shard, .int .i64 x.seq, .int .i64 x.worker, .int .i64 x.epoch, .slice x.ia x.n x.ic, .bool x.fin, .int .i64 0, .int .i64 0]] w (RBB w w o m) := by
  obtain ⟨w3, hw3⟩ : ∃ w3, w.alloc (.cells #[.int .i64 4, .int .i64 0, .int .i64 0, .int .i64 0, .int .i64 0, .int .i64 0, .int .i64 0, .int .i64 0, .int .i64 0, .int .i64 0, .int .i64 0, .string ⟨#[]⟩, .int .i64 0, .int .i64 0, .bool false, .int .i64 0, .string ⟨#[]⟩, .int .i64 x.slot, .int .i64 x.query, .int .i64 x.shard, .int .i64 x.seq, .int .i64 x.worker, .int .i64 x.epoch, .slice x.ia x.n x.ic, .bool x.fin, .int .i64 0, .int .i64 0] 46) = w3 := ⟨_, rfl⟩
  have BX := Lib.hid (show Below w.heap.size w w3 from hw3 ▸ below_one w _)
  have x0 : w3.cell? ⟨w.heap.size, 0, none⟩ = some (.int .i64 4) := by rw [← hw3, World.cell?_alloc_mark]; rfl
  have x17 : w3.cell? ⟨w.heap.size, 17, none⟩ = some (.int .i64 x.slot) := by rw [← hw3, World.cell?_alloc_mark]; rfl
  have x18 : w3.cell? ⟨w.heap.size, 18, none⟩ = some (.int .i64 x.query) := by rw [← hw3, World.cell?_alloc_mark]; rfl
  have x19 : w3.cell? ⟨w.heap.size, 19, none⟩ = some (.int .i64 x.shard) := by rw [← hw3, World.cell?_alloc_mark]; rfl
  have x20 : w3.cell? ⟨w.heap.size, 20, none⟩ = some (.int .i64 x.seq) := by rw [← hw3, World.cell?_alloc_mark]; rfl
  have x21 : w3.cell? ⟨w.heap.size, 21, none⟩ = some (.int .i64 x.worker) := by rw [← hw3, World.cell?_alloc_mark]; rfl
  have x22 : w3.cell? ⟨w.heap.size, 22, none⟩ = some (.int .i64 x.epoch) := by rw [← hw3, World.cell?_alloc_mark]; rfl
  have x23 : w3.cell? ⟨w.heap.size, 23, none⟩ = some (.slice x.ia x.n x.ic) := by rw [← hw3, World.cell?_alloc_mark]; rfl
  have x24 : w3.cell? ⟨w.heap.size, 24, none⟩ = some (.bool x.fin) := by rw [← hw3, World.cell?_alloc_mark]; rfl
  obtain ⟨p, hp⟩ : ∃ p, w.heap.size = p := ⟨_, rfl⟩
  rw [hp] at x0 x17 x18 x19 x20 x21 x22 x23 x24
  have BX0 := Lib.hid BX.out
  have CF := Lib.hid (dReplied x o m w3 (hh.below BX.out) hs hn ho hm)
  clear ho hm
  go_enter Try.func36, Try.ntmps36
  go_upto_region 1 with fail
  try rw [hw3]
  try simp only [hp]
  clear hw3 hp
  go_wp2_with fail
  with_reducible refine CF.out.mono ?_
  rintro e w' ⟨a2, c2, rfl, hl, hB, hb⟩
  have FF := Lib.hid (show RBB w w o m (.returned (.slice a2 m c2)) w' from ⟨a2, c2, rfl, hl, hB.rebase BX0.out, (hB.rebase BX0.out).b⟩)
  clear hl hB hb
  go_wp2_with fail
  go_ret
  exact FF.out
set_option maxHeartbeats 3200000 in
theorem rMay_Stop (a b : Int) (z : Bool) (w : World) (h : mayStop a b = z) :
    Calls Try.prog 20 #[.agg #[.int .i64 5, .int .i64 0, .int .i64 0, .int .i64 0, .int .i64 0, .int .i64 0, .int .i64 0, .int .i64 0, .int .i64 0, .int .i64 0, .int .i64 0, .string ⟨#[]⟩, .int .i64 0, .int .i64 0, .bool false, .int .i64 0, .string ⟨#[]⟩, .int .i64 0, .int .i64 0, .int .i64 0, .int .i64 0, .int .i64 0, .int .i64 0, .slice .none 0 0, .bool false, .int .i64 a, .int .i64 b]] w fun e w' => e = .returned (.bool z) ∧ Below w.heap.size w w' := by
  have h : (inR a 0 3 && allN [b]) = z := by rw [← h]; unfold mayStop allN; simp only [List.all_cons, List.all_nil, Bool.and_true]
  obtain ⟨z1, h1⟩ : ∃ z, inR a 0 3 = z := ⟨_, rfl⟩
  obtain ⟨z2, h2⟩ : ∃ z, allN [b] = z := ⟨_, rfl⟩
  rw [h1, h2] at h
  obtain ⟨w3, hw3⟩ : ∃ w3, w.alloc (.cells #[.int .i64 5, .int .i64 0, .int .i64 0, .int .i64 0, .int .i64 0, .int .i64 0, .int .i64 0, .int .i64 0, .int .i64 0, .int .i64 0, .int .i64 0, .string ⟨#[]⟩, .int .i64 0, .int .i64 0, .bool false, .int .i64 0, .string ⟨#[]⟩, .int .i64 0, .int .i64 0, .int .i64 0, .int .i64 0, .int .i64 0, .int .i64 0, .slice .none 0 0, .bool false, .int .i64 a, .int .i64 b] 46) = w3 := ⟨_, rfl⟩
  have BX := Lib.hid (show Below w.heap.size w w3 from hw3 ▸ below_one w _)
  have x0 : w3.cell? ⟨w.heap.size, 0, none⟩ = some (.int .i64 5) := by rw [← hw3, World.cell?_alloc_mark]; rfl
  have x25 : w3.cell? ⟨w.heap.size, 25, none⟩ = some (.int .i64 a) := by rw [← hw3, World.cell?_alloc_mark]; rfl
  have x26 : w3.cell? ⟨w.heap.size, 26, none⟩ = some (.int .i64 b) := by rw [← hw3, World.cell?_alloc_mark]; rfl
  obtain ⟨p, hp⟩ : ∃ p, w.heap.size = p := ⟨_, rfl⟩
  rw [hp] at x0 x25 x26
  have C1 := Lib.hid (fun w => rin_lit a 0 3 z1 w h1)
  have C2 := Lib.hid (rnums_any _ 1 1 [b] z2 _ (holdsI_lit w3 [b] 3 (0, 0)) (by omega) h2)
  have BY := Lib.hid (BX.out.trans ((below_one w3 (.cells #[.int .i64 b] 3)).mono BX.out.size))
  clear h1 h2
  cases z1
  · obtain rfl : z = false := by rw [← h]; simp
    clear h C2
    go_enter Try.func20, Try.ntmps20
    go_upto_region 1 with fail
    try rw [hw3]
    try simp only [hp]
    clear hw3 hp
    go_wp2_with fail
    refine (C1.out _).mono ?_
    rintro e w' ⟨rfl, rfl⟩
    go_wp2_with fail
    go_ret
    exact ⟨rfl, BX.out⟩
  · obtain rfl : z2 = z := by rw [← h]; rfl
    clear h
    go_enter Try.func20, Try.ntmps20
    go_upto_region 1 with fail
    try rw [hw3]
    try simp only [hp]
    clear hw3 hp
    go_wp2_with fail
    refine (C1.out _).mono ?_
    rintro e w' ⟨rfl, rfl⟩
    go_wp2_with fail
    refine C2.out.mono ?_
    rintro e w' ⟨rfl, hw⟩
    have BZ := Lib.hid (show Below w.heap.size w w' from hw ▸ BY.out)
    clear hw
    go_wp2_with fail
    go_ret
    exact ⟨rfl, BZ.out⟩
set_option maxHeartbeats 3200000 in
theorem rBody_Stop (a b : Int) (o : List Nat) (m : Nat) (w : World) (ho : bodyM (.stop a b) = o) (hm : o.length = m) :
    Calls Try.prog 36 #[.agg #[.int .i64 5, .int .i64 0, .int .i64 0, .int .i64 0, .int .i64 0, .int .i64 0, .int .i64 0, .int .i64 0, .int .i64 0, .int .i64 0, .int .i64 0, .string ⟨#[]⟩, .int .i64 0, .int .i64 0, .bool false, .int .i64 0, .string ⟨#[]⟩, .int .i64 0, .int .i64 0, .int .i64 0, .int .i64 0, .int .i64 0, .int .i64 0, .slice .none 0 0, .bool false, .int .i64 a, .int .i64 b]] w (RBB w w o m) := by
  obtain ⟨w3, hw3⟩ : ∃ w3, w.alloc (.cells #[.int .i64 5, .int .i64 0, .int .i64 0, .int .i64 0, .int .i64 0, .int .i64 0, .int .i64 0, .int .i64 0, .int .i64 0, .int .i64 0, .int .i64 0, .string ⟨#[]⟩, .int .i64 0, .int .i64 0, .bool false, .int .i64 0, .string ⟨#[]⟩, .int .i64 0, .int .i64 0, .int .i64 0, .int .i64 0, .int .i64 0, .int .i64 0, .slice .none 0 0, .bool false, .int .i64 a, .int .i64 b] 46) = w3 := ⟨_, rfl⟩
  have BX := Lib.hid (show Below w.heap.size w w3 from hw3 ▸ below_one w _)
  have x0 : w3.cell? ⟨w.heap.size, 0, none⟩ = some (.int .i64 5) := by rw [← hw3, World.cell?_alloc_mark]; rfl
  have x25 : w3.cell? ⟨w.heap.size, 25, none⟩ = some (.int .i64 a) := by rw [← hw3, World.cell?_alloc_mark]; rfl
  have x26 : w3.cell? ⟨w.heap.size, 26, none⟩ = some (.int .i64 b) := by rw [← hw3, World.cell?_alloc_mark]; rfl
  obtain ⟨p, hp⟩ : ∃ p, w.heap.size = p := ⟨_, rfl⟩
  rw [hp] at x0 x25 x26
  have BX0 := Lib.hid (BX.out.trans ((below_one w3 (.cells #[.int .i64 a, .int .i64 b] 3)).mono BX.out.size))
  have CF := Lib.hid (dfours _ 2 2 [a, b] m _ (holdsI_lit w3 [a, b] 3 (0, 0)) (by omega) (by rw [← hm, ← ho, show bodyM (.stop a b) = nsB [a, b] from rfl, nsB_len]; rfl))
  rw [show nsB [a, b] = o from ho] at CF
  simp only [List.map_cons, List.map_nil] at CF
  clear ho hm
  go_enter Try.func36, Try.ntmps36
  go_upto_region 1 with fail
  try rw [hw3]
  try simp only [hp]
  clear hw3 hp
  go_wp2_with fail
  refine CF.out.mono ?_
  rintro e w' ⟨a2, c2, rfl, hl, hB, hb⟩
  have FF := Lib.hid (show RBB w w o m (.returned (.slice a2 m c2)) w' from ⟨a2, c2, rfl, hl, hB.rebase BX0.out, (hB.rebase BX0.out).b⟩)
  clear hl hB hb
  go_wp2_with fail
  go_ret
  exact FF.out
theorem rMay_no (w : World) : Calls Try.prog 20 #[.agg #[.int .i64 0, .int .i64 0, .int .i64 0, .int .i64 0, .int .i64 0, .int .i64 0, .int .i64 0, .int .i64 0, .int .i64 0, .int .i64 0, .int .i64 0, .string ⟨#[]⟩, .int .i64 0, .int .i64 0, .bool false, .int .i64 0, .string ⟨#[]⟩, .int .i64 0, .int .i64 0, .int .i64 0, .int .i64 0, .int .i64 0, .int .i64 0, .slice .none 0 0, .bool false, .int .i64 0, .int .i64 0]] w fun e w' => e = .returned (.bool false) ∧ Below w.heap.size w w' := by
  obtain ⟨w3, hw3⟩ : ∃ w3, w.alloc (.cells #[.int .i64 0, .int .i64 0, .int .i64 0, .int .i64 0, .int .i64 0, .int .i64 0, .int .i64 0, .int .i64 0, .int .i64 0, .int .i64 0, .int .i64 0, .string ⟨#[]⟩, .int .i64 0, .int .i64 0, .bool false, .int .i64 0, .string ⟨#[]⟩, .int .i64 0, .int .i64 0, .int .i64 0, .int .i64 0, .int .i64 0, .int .i64 0, .slice .none 0 0, .bool false, .int .i64 0, .int .i64 0] 46) = w3 := ⟨_, rfl⟩
  have BX := Lib.hid (show Below w.heap.size w w3 from hw3 ▸ below_one w _)
  have x0 : w3.cell? ⟨w.heap.size, 0, none⟩ = some (.int .i64 0) := by rw [← hw3, World.cell?_alloc_mark]; rfl
  obtain ⟨p, hp⟩ : ∃ p, w.heap.size = p := ⟨_, rfl⟩
  rw [hp] at x0
  go_enter Try.func20, Try.ntmps20
  go_upto_region 1 with fail
  try rw [hw3]
  try simp only [hp]
  clear hw3 hp
  go_wp2_with fail
  go_ret
  exact ⟨rfl, BX.out⟩
theorem rMay_all (M : MsgV) (w : World) (hh : heldM w M) (hs : smallM M) : Calls Try.prog 20 #[msgC M] w fun e w' => e = .returned (.bool (mayM M)) ∧ Below w.heap.size w w' := by
  cases M with
  | hello a b => exact rMay_Hello a b _ w rfl
  | grant a b c => exact rMay_Grant a b c _ w rfl
  | ask x => exact rMay_Ask x _ w hs.1 hs.2 rfl
  | reply x => exact rMay_Reply x _ w hh.1 hs.1 hs.2 rfl
  | stop a b => exact rMay_Stop a b _ w rfl
  | num k => exact rMay_no w
  | none => exact rMay_no w
theorem rBody_all (M : MsgV) (w : World) (hh : heldM w M) (hs : smallM M) (hm : mayM M = true) : Calls Try.prog 36 #[msgC M] w (RBB w w (bodyM M) (bodyM M).length) := by
  cases M with
  | hello a b => exact rBody_Hello a b _ _ w rfl rfl
  | grant a b c => exact rBody_Grant a b c _ _ w rfl rfl
  | ask x => exact rBody_Ask x _ _ w hs.1 hs.2 rfl rfl
  | reply x => exact rBody_Reply x _ _ w hh.1 hs.1 (by have := may_n hh hm; omega) rfl rfl
  | stop a b => exact rBody_Stop a b _ _ w rfl rfl
  | num k => cases hm
  | none => cases hm
end Go.Proofs.Ythboiklcjpnhbaa
/- messages in the document: Of (by gen/md5.py) -/
namespace Go.Proofs.Ythboiklcjpnhbaa
open Go.RowKit
set_option linter.unusedVariables false
set_option maxRecDepth 20000
set_option maxRecDepth 100000
theorem heapD {w : World} {p : Nat} {o o2 : Obj} (h : w.heap[p]? = some o) : (w.alloc o2).heap[p]? = some o := by
  have hp : p < w.heap.size := (Array.getElem?_eq_some_iff.1 h).1
  show (w.heap.push o2)[p]? = some o
  rw [Array.getElem?_push, if_neg (by omega)]; exact h
set_option maxHeartbeats 3200000 in
theorem of_Hello (a b : Int) (w : World) : Calls Try.prog 16 #[.iface 23 (.agg #[.int .i64 a, .int .i64 b])] w fun e w' => e = .returned (.agg #[.int .i64 1, .int .i64 a, .int .i64 b, .int .i64 0, .int .i64 0, .int .i64 0, .int .i64 0, .int .i64 0, .int .i64 0, .int .i64 0, .int .i64 0, .string ⟨#[]⟩, .int .i64 0, .int .i64 0, .bool false, .int .i64 0, .string ⟨#[]⟩, .int .i64 0, .int .i64 0, .int .i64 0, .int .i64 0, .int .i64 0, .int .i64 0, .slice .none 0 0, .bool false, .int .i64 0, .int .i64 0]) ∧ Below w.heap.size w w' := by
  have tHello := taHelloHello a b
  obtain ⟨w1, hw1⟩ : ∃ w1, w.alloc (.cells #[.int .i64 0, .int .i64 0, .int .i64 0, .int .i64 0, .int .i64 0, .int .i64 0, .int .i64 0, .int .i64 0, .int .i64 0, .int .i64 0, .int .i64 0, .string ⟨#[]⟩, .int .i64 0, .int .i64 0, .bool false, .int .i64 0, .string ⟨#[]⟩, .int .i64 0, .int .i64 0, .int .i64 0, .int .i64 0, .int .i64 0, .int .i64 0, .slice .none 0 0, .bool false, .int .i64 0, .int .i64 0] 46) = w1 := ⟨_, rfl⟩
  have HG : w1.heap[w.heap.size]? = some (.cells #[.int .i64 0, .int .i64 0, .int .i64 0, .int .i64 0, .int .i64 0, .int .i64 0, .int .i64 0, .int .i64 0, .int .i64 0, .int .i64 0, .int .i64 0, .string ⟨#[]⟩, .int .i64 0, .int .i64 0, .bool false, .int .i64 0, .string ⟨#[]⟩, .int .i64 0, .int .i64 0, .int .i64 0, .int .i64 0, .int .i64 0, .int .i64 0, .slice .none 0 0, .bool false, .int .i64 0, .int .i64 0] 46 (0, 0)) := hw1 ▸ heap_alloc_new w _
  have BX := Lib.hid (show Below w.heap.size w w1 from hw1 ▸ below_one w _)
  have LW := Lib.hid (show w.heap.size < w1.heap.size from (Array.getElem?_eq_some_iff.1 HG).1)
  obtain ⟨p, hp⟩ : ∃ p, w.heap.size = p := ⟨_, rfl⟩
  have HP := Lib.hid hp
  rw [hp] at HG
  have HGH := Lib.hid HG
  clear HG
  go_enter Try.func16, Try.ntmps16
  go_upto_region 1 with fail
  try rw [hw1]
  try simp only [hp]
  clear hw1 hp
  go_wp2_with (first | (refine wpList_store_row rfl 46 (.tmp 2) (.tmp 13) rfl p #[.int .i64 1, .int .i64 a, .int .i64 b, .int .i64 0, .int .i64 0, .int .i64 0, .int .i64 0, .int .i64 0, .int .i64 0, .int .i64 0, .int .i64 0, .string ⟨#[]⟩, .int .i64 0, .int .i64 0, .bool false, .int .i64 0, .string ⟨#[]⟩, .int .i64 0, .int .i64 0, .int .i64 0, .int .i64 0, .int .i64 0, .int .i64 0, .slice .none 0 0, .bool false, .int .i64 0, .int .i64 0] rfl rfl 46 #[.int .i64 0, .int .i64 0, .int .i64 0, .int .i64 0, .int .i64 0, .int .i64 0, .int .i64 0, .int .i64 0, .int .i64 0, .int .i64 0, .int .i64 0, .string ⟨#[]⟩, .int .i64 0, .int .i64 0, .bool false, .int .i64 0, .string ⟨#[]⟩, .int .i64 0, .int .i64 0, .int .i64 0, .int .i64 0, .int .i64 0, .int .i64 0, .slice .none 0 0, .bool false, .int .i64 0, .int .i64 0] (heapD HGH.out) (by kernel_rfl) rfl (by simp [Value.oneCell']) ?_) | fail)
  (try simp only [Exit.inBlock, Exit.then])
  refine bodyPost_ret (results_cell_row rfl _ _ p 46 #[.int .i64 1, .int .i64 a, .int .i64 b, .int .i64 0, .int .i64 0, .int .i64 0, .int .i64 0, .int .i64 0, .int .i64 0, .int .i64 0, .int .i64 0, .string ⟨#[]⟩, .int .i64 0, .int .i64 0, .bool false, .int .i64 0, .string ⟨#[]⟩, .int .i64 0, .int .i64 0, .int .i64 0, .int .i64 0, .int .i64 0, .int .i64 0, .slice .none 0 0, .bool false, .int .i64 0, .int .i64 0] (0, 0) _ rfl (setRow_heap _ p _ _ _ _ (heapD HGH.out)) Try.underlying46 rfl (by kernel_rfl)) rfl ?_
  exact ⟨rfl, below_setRow (BX.out.trans ((below_one w1 (.cells #[.int .i64 a, .int .i64 b] 23)).mono BX.out.size)) (by rw [HP.out]; exact Nat.le_refl _) _⟩
set_option maxHeartbeats 3200000 in
theorem of_Grant (a b c : Int) (w : World) : Calls Try.prog 16 #[.iface 25 (.agg #[.int .i64 a, .int .i64 b, .int .i64 c])] w fun e w' => e = .returned (.agg #[.int .i64 2, .int .i64 0, .int .i64 0, .int .i64 a, .int .i64 b, .int .i64 c, .int .i64 0, .int .i64 0, .int .i64 0, .int .i64 0, .int .i64 0, .string ⟨#[]⟩, .int .i64 0, .int .i64 0, .bool false, .int .i64 0, .string ⟨#[]⟩, .int .i64 0, .int .i64 0, .int .i64 0, .int .i64 0, .int .i64 0, .int .i64 0, .slice .none 0 0, .bool false, .int .i64 0, .int .i64 0]) ∧ Below w.heap.size w w' := by
  have tHello := taGrantHello a b c
  have tGrant := taGrantGrant a b c
  obtain ⟨w1, hw1⟩ : ∃ w1, w.alloc (.cells #[.int .i64 0, .int .i64 0, .int .i64 0, .int .i64 0, .int .i64 0, .int .i64 0, .int .i64 0, .int .i64 0, .int .i64 0, .int .i64 0, .int .i64 0, .string ⟨#[]⟩, .int .i64 0, .int .i64 0, .bool false, .int .i64 0, .string ⟨#[]⟩, .int .i64 0, .int .i64 0, .int .i64 0, .int .i64 0, .int .i64 0, .int .i64 0, .slice .none 0 0, .bool false, .int .i64 0, .int .i64 0] 46) = w1 := ⟨_, rfl⟩
  have HG : w1.heap[w.heap.size]? = some (.cells #[.int .i64 0, .int .i64 0, .int .i64 0, .int .i64 0, .int .i64 0, .int .i64 0, .int .i64 0, .int .i64 0, .int .i64 0, .int .i64 0, .int .i64 0, .string ⟨#[]⟩, .int .i64 0, .int .i64 0, .bool false, .int .i64 0, .string ⟨#[]⟩, .int .i64 0, .int .i64 0, .int .i64 0, .int .i64 0, .int .i64 0, .int .i64 0, .slice .none 0 0, .bool false, .int .i64 0, .int .i64 0] 46 (0, 0)) := hw1 ▸ heap_alloc_new w _
  have BX := Lib.hid (show Below w.heap.size w w1 from hw1 ▸ below_one w _)
  have LW := Lib.hid (show w.heap.size < w1.heap.size from (Array.getElem?_eq_some_iff.1 HG).1)
  obtain ⟨p, hp⟩ : ∃ p, w.heap.size = p := ⟨_, rfl⟩
  have HP := Lib.hid hp
  rw [hp] at HG
  have HGH := Lib.hid HG
  clear HG
  go_enter Try.func16, Try.ntmps16
  go_upto_region 1 with fail
  try rw [hw1]
  try simp only [hp]
  clear hw1 hp
  go_wp2_with (first | (refine wpList_store_row rfl 46 (.tmp 2) (.tmp 18) rfl p #[.int .i64 2, .int .i64 0, .int .i64 0, .int .i64 a, .int .i64 b, .int .i64 c, .int .i64 0, .int .i64 0, .int .i64 0, .int .i64 0, .int .i64 0, .string ⟨#[]⟩, .int .i64 0, .int .i64 0, .bool false, .int .i64 0, .string ⟨#[]⟩, .int .i64 0, .int .i64 0, .int .i64 0, .int .i64 0, .int .i64 0, .int .i64 0, .slice .none 0 0, .bool false, .int .i64 0, .int .i64 0] rfl rfl 46 #[.int .i64 0, .int .i64 0, .int .i64 0, .int .i64 0, .int .i64 0, .int .i64 0, .int .i64 0, .int .i64 0, .int .i64 0, .int .i64 0, .int .i64 0, .string ⟨#[]⟩, .int .i64 0, .int .i64 0, .bool false, .int .i64 0, .string ⟨#[]⟩, .int .i64 0, .int .i64 0, .int .i64 0, .int .i64 0, .int .i64 0, .int .i64 0, .slice .none 0 0, .bool false, .int .i64 0, .int .i64 0] (heapD HGH.out) (by kernel_rfl) rfl (by simp [Value.oneCell']) ?_) | fail)
  (try simp only [Exit.inBlock, Exit.then])
  refine bodyPost_ret (results_cell_row rfl _ _ p 46 #[.int .i64 2, .int .i64 0, .int .i64 0, .int .i64 a, .int .i64 b, .int .i64 c, .int .i64 0, .int .i64 0, .int .i64 0, .int .i64 0, .int .i64 0, .string ⟨#[]⟩, .int .i64 0, .int .i64 0, .bool false, .int .i64 0, .string ⟨#[]⟩, .int .i64 0, .int .i64 0, .int .i64 0, .int .i64 0, .int .i64 0, .int .i64 0, .slice .none 0 0, .bool false, .int .i64 0, .int .i64 0] (0, 0) _ rfl (setRow_heap _ p _ _ _ _ (heapD HGH.out)) Try.underlying46 rfl (by kernel_rfl)) rfl ?_
  exact ⟨rfl, below_setRow (BX.out.trans ((below_one w1 (.cells #[.int .i64 a, .int .i64 b, .int .i64 c] 25)).mono BX.out.size)) (by rw [HP.out]; exact Nat.le_refl _) _⟩
set_option maxHeartbeats 3200000 in
theorem of_Ask (x : AskP) (w : World) : Calls Try.prog 16 #[.iface 29 (.agg #[.int .i64 x.slot, .int .i64 x.query, .int .i64 x.shard, .int .i64 x.seq, .int .i64 x.epoch, .string x.text, .int .i64 x.k, .int .i64 x.batch, .bool x.first, .int .i64 x.ad, .string x.aw])] w fun e w' => e = .returned (.agg #[.int .i64 3, .int .i64 0, .int .i64 0, .int .i64 0, .int .i64 0, .int .i64 0, .int .i64 x.slot, .int .i64 x.query, .int .i64 x.shard, .int .i64 x.seq, .int .i64 x.epoch, .string x.text, .int .i64 x.k, .int .i64 x.batch, .bool x.first, .int .i64 x.ad, .string x.aw, .int .i64 0, .int .i64 0, .int .i64 0, .int .i64 0, .int .i64 0, .int .i64 0, .slice .none 0 0, .bool false, .int .i64 0, .int .i64 0]) ∧ Below w.heap.size w w' := by
  have tHello := taAskHello x
  have tGrant := taAskGrant x
  have tAsk := taAskAsk x
  obtain ⟨w1, hw1⟩ : ∃ w1, w.alloc (.cells #[.int .i64 0, .int .i64 0, .int .i64 0, .int .i64 0, .int .i64 0, .int .i64 0, .int .i64 0, .int .i64 0, .int .i64 0, .int .i64 0, .int .i64 0, .string ⟨#[]⟩, .int .i64 0, .int .i64 0, .bool false, .int .i64 0, .string ⟨#[]⟩, .int .i64 0, .int .i64 0, .int .i64 0, .int .i64 0, .int .i64 0, .int .i64 0, .slice .none 0 0, .bool false, .int .i64 0, .int .i64 0] 46) = w1 := ⟨_, rfl⟩
  have HG : w1.heap[w.heap.size]? = some (.cells #[.int .i64 0, .int .i64 0, .int .i64 0, .int .i64 0, .int .i64 0, .int .i64 0, .int .i64 0, .int .i64 0, .int .i64 0, .int .i64 0, .int .i64 0, .string ⟨#[]⟩, .int .i64 0, .int .i64 0, .bool false, .int .i64 0, .string ⟨#[]⟩, .int .i64 0, .int .i64 0, .int .i64 0, .int .i64 0, .int .i64 0, .int .i64 0, .slice .none 0 0, .bool false, .int .i64 0, .int .i64 0] 46 (0, 0)) := hw1 ▸ heap_alloc_new w _
  have BX := Lib.hid (show Below w.heap.size w w1 from hw1 ▸ below_one w _)
  have LW := Lib.hid (show w.heap.size < w1.heap.size from (Array.getElem?_eq_some_iff.1 HG).1)
  obtain ⟨p, hp⟩ : ∃ p, w.heap.size = p := ⟨_, rfl⟩
  have HP := Lib.hid hp
  rw [hp] at HG
  have HGH := Lib.hid HG
  clear HG
  go_enter Try.func16, Try.ntmps16
  go_upto_region 1 with fail
  try rw [hw1]
  try simp only [hp]
  clear hw1 hp
  go_wp2_with (first | (refine wpList_store_row rfl 46 (.tmp 2) (.tmp 23) rfl p #[.int .i64 3, .int .i64 0, .int .i64 0, .int .i64 0, .int .i64 0, .int .i64 0, .int .i64 x.slot, .int .i64 x.query, .int .i64 x.shard, .int .i64 x.seq, .int .i64 x.epoch, .string x.text, .int .i64 x.k, .int .i64 x.batch, .bool x.first, .int .i64 x.ad, .string x.aw, .int .i64 0, .int .i64 0, .int .i64 0, .int .i64 0, .int .i64 0, .int .i64 0, .slice .none 0 0, .bool false, .int .i64 0, .int .i64 0] rfl rfl 46 #[.int .i64 0, .int .i64 0, .int .i64 0, .int .i64 0, .int .i64 0, .int .i64 0, .int .i64 0, .int .i64 0, .int .i64 0, .int .i64 0, .int .i64 0, .string ⟨#[]⟩, .int .i64 0, .int .i64 0, .bool false, .int .i64 0, .string ⟨#[]⟩, .int .i64 0, .int .i64 0, .int .i64 0, .int .i64 0, .int .i64 0, .int .i64 0, .slice .none 0 0, .bool false, .int .i64 0, .int .i64 0] (heapD HGH.out) (by kernel_rfl) rfl (by simp [Value.oneCell']) ?_) | fail)
  (try simp only [Exit.inBlock, Exit.then])
  refine bodyPost_ret (results_cell_row rfl _ _ p 46 #[.int .i64 3, .int .i64 0, .int .i64 0, .int .i64 0, .int .i64 0, .int .i64 0, .int .i64 x.slot, .int .i64 x.query, .int .i64 x.shard, .int .i64 x.seq, .int .i64 x.epoch, .string x.text, .int .i64 x.k, .int .i64 x.batch, .bool x.first, .int .i64 x.ad, .string x.aw, .int .i64 0, .int .i64 0, .int .i64 0, .int .i64 0, .int .i64 0, .int .i64 0, .slice .none 0 0, .bool false, .int .i64 0, .int .i64 0] (0, 0) _ rfl (setRow_heap _ p _ _ _ _ (heapD HGH.out)) Try.underlying46 rfl (by kernel_rfl)) rfl ?_
  exact ⟨rfl, below_setRow (BX.out.trans ((below_one w1 (.cells #[.int .i64 x.slot, .int .i64 x.query, .int .i64 x.shard, .int .i64 x.seq, .int .i64 x.epoch, .string x.text, .int .i64 x.k, .int .i64 x.batch, .bool x.first, .int .i64 x.ad, .string x.aw] 29)).mono BX.out.size)) (by rw [HP.out]; exact Nat.le_refl _) _⟩
set_option maxHeartbeats 3200000 in
theorem of_Reply (x : RepP) (w : World) : Calls Try.prog 16 #[.iface 32 (.agg #[.int .i64 x.slot, .int .i64 x.query, .int .i64 x.shard, .int .i64 x.seq, .int .i64 x.worker, .int .i64 x.epoch, .slice x.ia x.n x.ic, .bool x.fin])] w fun e w' => e = .returned (.agg #[.int .i64 4, .int .i64 0, .int .i64 0, .int .i64 0, .int .i64 0, .int .i64 0, .int .i64 0, .int .i64 0, .int .i64 0, .int .i64 0, .int .i64 0, .string ⟨#[]⟩, .int .i64 0, .int .i64 0, .bool false, .int .i64 0, .string ⟨#[]⟩, .int .i64 x.slot, .int .i64 x.query, .int .i64 x.shard, .int .i64 x.seq, .int .i64 x.worker, .int .i64 x.epoch, .slice x.ia x.n x.ic, .bool x.fin, .int .i64 0, .int .i64 0]) ∧ Below w.heap.size w w' := by
  have tHello := taReplyHello x
  have tGrant := taReplyGrant x
  have tAsk := taReplyAsk x
  have tReply := taReplyReply x
  obtain ⟨w1, hw1⟩ : ∃ w1, w.alloc (.cells #[.int .i64 0, .int .i64 0, .int .i64 0, .int .i64 0, .int .i64 0, .int .i64 0, .int .i64 0, .int .i64 0, .int .i64 0, .int .i64 0, .int .i64 0, .string ⟨#[]⟩, .int .i64 0, .int .i64 0, .bool false, .int .i64 0, .string ⟨#[]⟩, .int .i64 0, .int .i64 0, .int .i64 0, .int .i64 0, .int .i64 0, .int .i64 0, .slice .none 0 0, .bool false, .int .i64 0, .int .i64 0] 46) = w1 := ⟨_, rfl⟩
  have HG : w1.heap[w.heap.size]? = some (.cells #[.int .i64 0, .int .i64 0, .int .i64 0, .int .i64 0, .int .i64 0, .int .i64 0, .int .i64 0, .int .i64 0, .int .i64 0, .int .i64 0, .int .i64 0, .string ⟨#[]⟩, .int .i64 0, .int .i64 0, .bool false, .int .i64 0, .string ⟨#[]⟩, .int .i64 0, .int .i64 0, .int .i64 0, .int .i64 0, .int .i64 0, .int .i64 0, .slice .none 0 0, .bool false, .int .i64 0, .int .i64 0] 46 (0, 0)) := hw1 ▸ heap_alloc_new w _
  have BX := Lib.hid (show Below w.heap.size w w1 from hw1 ▸ below_one w _)
  have LW := Lib.hid (show w.heap.size < w1.heap.size from (Array.getElem?_eq_some_iff.1 HG).1)
  obtain ⟨p, hp⟩ : ∃ p, w.heap.size = p := ⟨_, rfl⟩
  have HP := Lib.hid hp
  rw [hp] at HG
  have HGH := Lib.hid HG
  clear HG
  go_enter Try.func16, Try.ntmps16
  go_upto_region 1 with fail
  try rw [hw1]
  try simp only [hp]
  clear hw1 hp
  go_wp2_with (first | (refine wpList_store_row rfl 46 (.tmp 2) (.tmp 28) rfl p #[.int .i64 4, .int .i64 0, .int .i64 0, .int .i64 0, .int .i64 0, .int .i64 0, .int .i64 0, .int .i64 0, .int .i64 0, .int .i64 0, .int .i64 0, .string ⟨#[]⟩, .int .i64 0, .int .i64 0, .bool false, .int .i64 0, .string ⟨#[]⟩, .int .i64 x.slot, .int .i64 x.query, .int .i64 x.shard, .int .i64 x.seq, .int .i64 x.worker, .int .i64 x.epoch, .slice x.ia x.n x.ic, .bool x.fin, .int .i64 0, .int .i64 0] rfl rfl 46 #[.int .i64 0, .int .i64 0, .int .i64 0, .int .i64 0, .int .i64 0, .int .i64 0, .int .i64 0, .int .i64 0, .int .i64 0, .int .i64 0, .int .i64 0, .string ⟨#[]⟩, .int .i64 0, .int .i64 0, .bool false, .int .i64 0, .string ⟨#[]⟩, .int .i64 0, .int .i64 0, .int .i64 0, .int .i64 0, .int .i64 0, .int .i64 0, .slice .none 0 0, .bool false, .int .i64 0, .int .i64 0] (heapD HGH.out) (by kernel_rfl) rfl (by simp [Value.oneCell']) ?_) | fail)
  (try simp only [Exit.inBlock, Exit.then])
  refine bodyPost_ret (results_cell_row rfl _ _ p 46 #[.int .i64 4, .int .i64 0, .int .i64 0, .int .i64 0, .int .i64 0, .int .i64 0, .int .i64 0, .int .i64 0, .int .i64 0, .int .i64 0, .int .i64 0, .string ⟨#[]⟩, .int .i64 0, .int .i64 0, .bool false, .int .i64 0, .string ⟨#[]⟩, .int .i64 x.slot, .int .i64 x.query, .int .i64 x.shard, .int .i64 x.seq, .int .i64 x.worker, .int .i64 x.epoch, .slice x.ia x.n x.ic, .bool x.fin, .int .i64 0, .int .i64 0] (0, 0) _ rfl (setRow_heap _ p _ _ _ _ (heapD HGH.out)) Try.underlying46 rfl (by kernel_rfl)) rfl ?_
  exact ⟨rfl, below_setRow (BX.out.trans ((below_one w1 (.cells #[.int .i64 x.slot, .int .i64 x.query, .int .i64 x.shard, .int .i64 x.seq, .int .i64 x.worker, .int .i64 x.epoch, .slice x.ia x.n x.ic, .bool x.fin] 32)).mono BX.out.size)) (by rw [HP.out]; exact Nat.le_refl _) _⟩
set_option maxHeartbeats 3200000 in
theorem of_Stop (a b : Int) (w : World) : Calls Try.prog 16 #[.iface 34 (.agg #[.int .i64 a, .int .i64 b])] w fun e w' => e = .returned (.agg #[.int .i64 5, .int .i64 0, .int .i64 0, .int .i64 0, .int .i64 0, .int .i64 0, .int .i64 0, .int .i64 0, .int .i64 0, .int .i64 0, .int .i64 0, .string ⟨#[]⟩, .int .i64 0, .int .i64 0, .bool false, .int .i64 0, .string ⟨#[]⟩, .int .i64 0, .int .i64 0, .int .i64 0, .int .i64 0, .int .i64 0, .int .i64 0, .slice .none 0 0, .bool false, .int .i64 a, .int .i64 b]) ∧ Below w.heap.size w w' := by
  have tHello := taStopHello a b
  have tGrant := taStopGrant a b
  have tAsk := taStopAsk a b
  have tReply := taStopReply a b
  have tStop := taStopStop a b
  obtain ⟨w1, hw1⟩ : ∃ w1, w.alloc (.cells #[.int .i64 0, .int .i64 0, .int .i64 0, .int .i64 0, .int .i64 0, .int .i64 0, .int .i64 0, .int .i64 0, .int .i64 0, .int .i64 0, .int .i64 0, .string ⟨#[]⟩, .int .i64 0, .int .i64 0, .bool false, .int .i64 0, .string ⟨#[]⟩, .int .i64 0, .int .i64 0, .int .i64 0, .int .i64 0, .int .i64 0, .int .i64 0, .slice .none 0 0, .bool false, .int .i64 0, .int .i64 0] 46) = w1 := ⟨_, rfl⟩
  have HG : w1.heap[w.heap.size]? = some (.cells #[.int .i64 0, .int .i64 0, .int .i64 0, .int .i64 0, .int .i64 0, .int .i64 0, .int .i64 0, .int .i64 0, .int .i64 0, .int .i64 0, .int .i64 0, .string ⟨#[]⟩, .int .i64 0, .int .i64 0, .bool false, .int .i64 0, .string ⟨#[]⟩, .int .i64 0, .int .i64 0, .int .i64 0, .int .i64 0, .int .i64 0, .int .i64 0, .slice .none 0 0, .bool false, .int .i64 0, .int .i64 0] 46 (0, 0)) := hw1 ▸ heap_alloc_new w _
  have BX := Lib.hid (show Below w.heap.size w w1 from hw1 ▸ below_one w _)
  have LW := Lib.hid (show w.heap.size < w1.heap.size from (Array.getElem?_eq_some_iff.1 HG).1)
  obtain ⟨p, hp⟩ : ∃ p, w.heap.size = p := ⟨_, rfl⟩
  have HP := Lib.hid hp
  rw [hp] at HG
  have HGH := Lib.hid HG
  clear HG
  go_enter Try.func16, Try.ntmps16
  go_upto_region 1 with fail
  try rw [hw1]
  try simp only [hp]
  clear hw1 hp
  go_wp2_with (first | (refine wpList_store_row rfl 46 (.tmp 2) (.tmp 33) rfl p #[.int .i64 5, .int .i64 0, .int .i64 0, .int .i64 0, .int .i64 0, .int .i64 0, .int .i64 0, .int .i64 0, .int .i64 0, .int .i64 0, .int .i64 0, .string ⟨#[]⟩, .int .i64 0, .int .i64 0, .bool false, .int .i64 0, .string ⟨#[]⟩, .int .i64 0, .int .i64 0, .int .i64 0, .int .i64 0, .int .i64 0, .int .i64 0, .slice .none 0 0, .bool false, .int .i64 a, .int .i64 b] rfl rfl 46 #[.int .i64 0, .int .i64 0, .int .i64 0, .int .i64 0, .int .i64 0, .int .i64 0, .int .i64 0, .int .i64 0, .int .i64 0, .int .i64 0, .int .i64 0, .string ⟨#[]⟩, .int .i64 0, .int .i64 0, .bool false, .int .i64 0, .string ⟨#[]⟩, .int .i64 0, .int .i64 0, .int .i64 0, .int .i64 0, .int .i64 0, .int .i64 0, .slice .none 0 0, .bool false, .int .i64 0, .int .i64 0] (heapD HGH.out) (by kernel_rfl) rfl (by simp [Value.oneCell']) ?_) | fail)
  (try simp only [Exit.inBlock, Exit.then])
  refine bodyPost_ret (results_cell_row rfl _ _ p 46 #[.int .i64 5, .int .i64 0, .int .i64 0, .int .i64 0, .int .i64 0, .int .i64 0, .int .i64 0, .int .i64 0, .int .i64 0, .int .i64 0, .int .i64 0, .string ⟨#[]⟩, .int .i64 0, .int .i64 0, .bool false, .int .i64 0, .string ⟨#[]⟩, .int .i64 0, .int .i64 0, .int .i64 0, .int .i64 0, .int .i64 0, .int .i64 0, .slice .none 0 0, .bool false, .int .i64 a, .int .i64 b] (0, 0) _ rfl (setRow_heap _ p _ _ _ _ (heapD HGH.out)) Try.underlying46 rfl (by kernel_rfl)) rfl ?_
  exact ⟨rfl, below_setRow (BX.out.trans ((below_one w1 (.cells #[.int .i64 a, .int .i64 b] 34)).mono BX.out.size)) (by rw [HP.out]; exact Nat.le_refl _) _⟩
set_option maxHeartbeats 3200000 in
theorem of_Num (k : Int) (w : World) : Calls Try.prog 16 #[.iface 3 (.int .i64 k)] w fun e w' => e = .returned (.agg #[.int .i64 0, .int .i64 0, .int .i64 0, .int .i64 0, .int .i64 0, .int .i64 0, .int .i64 0, .int .i64 0, .int .i64 0, .int .i64 0, .int .i64 0, .string ⟨#[]⟩, .int .i64 0, .int .i64 0, .bool false, .int .i64 0, .string ⟨#[]⟩, .int .i64 0, .int .i64 0, .int .i64 0, .int .i64 0, .int .i64 0, .int .i64 0, .slice .none 0 0, .bool false, .int .i64 0, .int .i64 0]) ∧ Below w.heap.size w w' := by
  have tHello := taNumHello k
  have tGrant := taNumGrant k
  have tAsk := taNumAsk k
  have tReply := taNumReply k
  have tStop := taNumStop k
  obtain ⟨w1, hw1⟩ : ∃ w1, w.alloc (.cells #[.int .i64 0, .int .i64 0, .int .i64 0, .int .i64 0, .int .i64 0, .int .i64 0, .int .i64 0, .int .i64 0, .int .i64 0, .int .i64 0, .int .i64 0, .string ⟨#[]⟩, .int .i64 0, .int .i64 0, .bool false, .int .i64 0, .string ⟨#[]⟩, .int .i64 0, .int .i64 0, .int .i64 0, .int .i64 0, .int .i64 0, .int .i64 0, .slice .none 0 0, .bool false, .int .i64 0, .int .i64 0] 46) = w1 := ⟨_, rfl⟩
  have HG : w1.heap[w.heap.size]? = some (.cells #[.int .i64 0, .int .i64 0, .int .i64 0, .int .i64 0, .int .i64 0, .int .i64 0, .int .i64 0, .int .i64 0, .int .i64 0, .int .i64 0, .int .i64 0, .string ⟨#[]⟩, .int .i64 0, .int .i64 0, .bool false, .int .i64 0, .string ⟨#[]⟩, .int .i64 0, .int .i64 0, .int .i64 0, .int .i64 0, .int .i64 0, .int .i64 0, .slice .none 0 0, .bool false, .int .i64 0, .int .i64 0] 46 (0, 0)) := hw1 ▸ heap_alloc_new w _
  have BX := Lib.hid (show Below w.heap.size w w1 from hw1 ▸ below_one w _)
  have LW := Lib.hid (show w.heap.size < w1.heap.size from (Array.getElem?_eq_some_iff.1 HG).1)
  obtain ⟨p, hp⟩ : ∃ p, w.heap.size = p := ⟨_, rfl⟩
  have HP := Lib.hid hp
  rw [hp] at HG
  have HGH := Lib.hid HG
  clear HG
  go_enter Try.func16, Try.ntmps16
  go_upto_region 1 with fail
  try rw [hw1]
  try simp only [hp]
  clear hw1 hp
  go_wp2_with (first | (refine wpList_store_row rfl 46 (.tmp 2) (.tmp 34) rfl p #[.int .i64 0, .int .i64 0, .int .i64 0, .int .i64 0, .int .i64 0, .int .i64 0, .int .i64 0, .int .i64 0, .int .i64 0, .int .i64 0, .int .i64 0, .string ⟨#[]⟩, .int .i64 0, .int .i64 0, .bool false, .int .i64 0, .string ⟨#[]⟩, .int .i64 0, .int .i64 0, .int .i64 0, .int .i64 0, .int .i64 0, .int .i64 0, .slice .none 0 0, .bool false, .int .i64 0, .int .i64 0] rfl rfl 46 #[.int .i64 0, .int .i64 0, .int .i64 0, .int .i64 0, .int .i64 0, .int .i64 0, .int .i64 0, .int .i64 0, .int .i64 0, .int .i64 0, .int .i64 0, .string ⟨#[]⟩, .int .i64 0, .int .i64 0, .bool false, .int .i64 0, .string ⟨#[]⟩, .int .i64 0, .int .i64 0, .int .i64 0, .int .i64 0, .int .i64 0, .int .i64 0, .slice .none 0 0, .bool false, .int .i64 0, .int .i64 0] HGH.out (by kernel_rfl) rfl (by simp [Value.oneCell']) ?_) | fail)
  (try simp only [Exit.inBlock, Exit.then])
  refine bodyPost_ret (results_cell_row rfl _ _ p 46 #[.int .i64 0, .int .i64 0, .int .i64 0, .int .i64 0, .int .i64 0, .int .i64 0, .int .i64 0, .int .i64 0, .int .i64 0, .int .i64 0, .int .i64 0, .string ⟨#[]⟩, .int .i64 0, .int .i64 0, .bool false, .int .i64 0, .string ⟨#[]⟩, .int .i64 0, .int .i64 0, .int .i64 0, .int .i64 0, .int .i64 0, .int .i64 0, .slice .none 0 0, .bool false, .int .i64 0, .int .i64 0] (0, 0) _ rfl (setRow_heap _ p _ _ _ _ HGH.out) Try.underlying46 rfl (by kernel_rfl)) rfl ?_
  exact ⟨rfl, below_setRow BX.out (by rw [HP.out]; exact Nat.le_refl _) _⟩
set_option maxHeartbeats 3200000 in
theorem of_Nil  (w : World) : Calls Try.prog 16 #[.nilIface] w fun e w' => e = .returned (.agg #[.int .i64 0, .int .i64 0, .int .i64 0, .int .i64 0, .int .i64 0, .int .i64 0, .int .i64 0, .int .i64 0, .int .i64 0, .int .i64 0, .int .i64 0, .string ⟨#[]⟩, .int .i64 0, .int .i64 0, .bool false, .int .i64 0, .string ⟨#[]⟩, .int .i64 0, .int .i64 0, .int .i64 0, .int .i64 0, .int .i64 0, .int .i64 0, .slice .none 0 0, .bool false, .int .i64 0, .int .i64 0]) ∧ Below w.heap.size w w' := by
  have tHello := taNilHello 
  have tGrant := taNilGrant 
  have tAsk := taNilAsk 
  have tReply := taNilReply 
  have tStop := taNilStop 
  obtain ⟨w1, hw1⟩ : ∃ w1, w.alloc (.cells #[.int .i64 0, .int .i64 0, .int .i64 0, .int .i64 0, .int .i64 0, .int .i64 0, .int .i64 0, .int .i64 0, .int .i64 0, .int .i64 0, .int .i64 0, .string ⟨#[]⟩, .int .i64 0, .int .i64 0, .bool false, .int .i64 0, .string ⟨#[]⟩, .int .i64 0, .int .i64 0, .int .i64 0, .int .i64 0, .int .i64 0, .int .i64 0, .slice .none 0 0, .bool false, .int .i64 0, .int .i64 0] 46) = w1 := ⟨_, rfl⟩
  have HG : w1.heap[w.heap.size]? = some (.cells #[.int .i64 0, .int .i64 0, .int .i64 0, .int .i64 0, .int .i64 0, .int .i64 0, .int .i64 0, .int .i64 0, .int .i64 0, .int .i64 0, .int .i64 0, .string ⟨#[]⟩, .int .i64 0, .int .i64 0, .bool false, .int .i64 0, .string ⟨#[]⟩, .int .i64 0, .int .i64 0, .int .i64 0, .int .i64 0, .int .i64 0, .int .i64 0, .slice .none 0 0, .bool false, .int .i64 0, .int .i64 0] 46 (0, 0)) := hw1 ▸ heap_alloc_new w _
  have BX := Lib.hid (show Below w.heap.size w w1 from hw1 ▸ below_one w _)
  have LW := Lib.hid (show w.heap.size < w1.heap.size from (Array.getElem?_eq_some_iff.1 HG).1)
  obtain ⟨p, hp⟩ : ∃ p, w.heap.size = p := ⟨_, rfl⟩
  have HP := Lib.hid hp
  rw [hp] at HG
  have HGH := Lib.hid HG
  clear HG
  go_enter Try.func16, Try.ntmps16
  go_upto_region 1 with fail
  try rw [hw1]
  try simp only [hp]
  clear hw1 hp
  go_wp2_with (first | (refine wpList_store_row rfl 46 (.tmp 2) (.tmp 34) rfl p #[.int .i64 0, .int .i64 0, .int .i64 0, .int .i64 0, .int .i64 0, .int .i64 0, .int .i64 0, .int .i64 0, .int .i64 0, .int .i64 0, .int .i64 0, .string ⟨#[]⟩, .int .i64 0, .int .i64 0, .bool false, .int .i64 0, .string ⟨#[]⟩, .int .i64 0, .int .i64 0, .int .i64 0, .int .i64 0, .int .i64 0, .int .i64 0, .slice .none 0 0, .bool false, .int .i64 0, .int .i64 0] rfl rfl 46 #[.int .i64 0, .int .i64 0, .int .i64 0, .int .i64 0, .int .i64 0, .int .i64 0, .int .i64 0, .int .i64 0, .int .i64 0, .int .i64 0, .int .i64 0, .string ⟨#[]⟩, .int .i64 0, .int .i64 0, .bool false, .int .i64 0, .string ⟨#[]⟩, .int .i64 0, .int .i64 0, .int .i64 0, .int .i64 0, .int .i64 0, .int .i64 0, .slice .none 0 0, .bool false, .int .i64 0, .int .i64 0] HGH.out (by kernel_rfl) rfl (by simp [Value.oneCell']) ?_) | fail)
  (try simp only [Exit.inBlock, Exit.then])
  refine bodyPost_ret (results_cell_row rfl _ _ p 46 #[.int .i64 0, .int .i64 0, .int .i64 0, .int .i64 0, .int .i64 0, .int .i64 0, .int .i64 0, .int .i64 0, .int .i64 0, .int .i64 0, .int .i64 0, .string ⟨#[]⟩, .int .i64 0, .int .i64 0, .bool false, .int .i64 0, .string ⟨#[]⟩, .int .i64 0, .int .i64 0, .int .i64 0, .int .i64 0, .int .i64 0, .int .i64 0, .slice .none 0 0, .bool false, .int .i64 0, .int .i64 0] (0, 0) _ rfl (setRow_heap _ p _ _ _ _ HGH.out) Try.underlying46 rfl (by kernel_rfl)) rfl ?_
  exact ⟨rfl, below_setRow BX.out (by rw [HP.out]; exact Nat.le_refl _) _⟩
theorem of_all (M : MsgV) (w : World) : Calls Try.prog 16 #[valM M] w fun e w' => e = .returned (msgC M) ∧ Below w.heap.size w w' := by
  cases M with
  | hello a b => exact of_Hello a b w
  | grant a b c => exact of_Grant a b c w
  | ask x => exact of_Ask x w
  | reply x => exact of_Reply x w
  | stop a b => exact of_Stop a b w
  | num k => exact of_Num k w
  | none => exact of_Nil w
end Go.Proofs.Ythboiklcjpnhbaa
