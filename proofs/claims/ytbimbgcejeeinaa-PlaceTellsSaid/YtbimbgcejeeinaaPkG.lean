/- texts joined -/
import Derived.Test.YtbimbgcejeeinaaPkD
import Derived.Test.YtbimbgcejeeinaaPkA
import Derived.Deep.RegionHeld3
import Derived.Test.YtbimbgcejeeinaaPkB
import Derived.Test.YtbimbgcejeeinaaPkC
import Derived.Deep.AppendLies
import Derived.Test.YtbimbgcejeeinaaPkF
import Derived.Test.YtbimbgcejeeinaaPkE
/- contract of the document's 'one'; it is the runes that a range yields -/
namespace Go.Proofs.Ytbimbgcejeeinaa
open Go.RowKit
set_option linter.unusedVariables false
set_option maxRecDepth 20000
def oneV (s : ByteArray) (i : Nat) : Int × Int :=
  if byteS s i < 128 then ((byteS s i : Int), 1)
  else if (194 ≤ byteS s i ∧ byteS s i ≤ 223) ∧ moreP s (i + 1) then (((byteS s i : Int) - 192) * 64 + moreV s (i + 1), 2)
  else if (224 ≤ byteS s i ∧ byteS s i ≤ 239) ∧ moreP s (i + 1) ∧ moreP s (i + 2) then (((byteS s i : Int) - 224) * 4096 + moreV s (i + 1) * 64 + moreV s (i + 2), 3)
  else if (240 ≤ byteS s i ∧ byteS s i ≤ 244) ∧ moreP s (i + 1) ∧ moreP s (i + 2) ∧ moreP s (i + 3) then (((byteS s i : Int) - 240) * 262144 + moreV s (i + 1) * 4096 + moreV s (i + 2) * 64 + moreV s (i + 3), 4)
  else (0, 0)
theorem moreV_bd (s : ByteArray) (i : Nat) : 0 ≤ moreV s i ∧ moreV s i ≤ 63 := by
  unfold moreV
  split
  · rename_i h; unfold moreP at h; omega
  · omega
theorem more_lit (s : ByteArray) (i : Nat) (k : Int) (w : World) (hs : s.size ≤ 1048576) (hi : i ≤ 1048580) (p : Bool) (v : Int) (hk : (i : Int) = k) (hp : decide (moreP s i) = p) (hv : moreV s i = v) :
    Calls Try.prog 116 #[.string s, .int .i64 k] w fun e w' => e = .returned (.tuple #[.int .i32 v, .bool p]) ∧ w = w' := by
  subst hp hv hk; exact more_any s i w hs hi
def badP (r n : Int) : Prop := n = 0 ∨ ¬ goodP r ∨ (n = 3 ∧ r < 2048) ∨ (n = 4 ∧ r < 65536)
instance (r n : Int) : Decidable (badP r n) := by unfold badP; infer_instance
set_option maxHeartbeats 1600000 in
theorem one_decode (s : ByteArray) (i : Nat) (hi : i < s.size) :
    (badP (oneV s i).1 (oneV s i).2 → (Utf8.decode s i).1 = 65533) ∧
    (¬ badP (oneV s i).1 (oneV s i).2 → (oneV s i).1 = ((Utf8.decode s i).1 : Int) ∧ (oneV s i).2 = ((Utf8.decode s i).2 : Int) ∧ (Utf8.decode s i).1 ≠ 65533) := by
  rw [Lib.decode_at]
  have e1 : moreP s (i + 1) ↔ (1 < s.size - i ∧ 128 ≤ byteS s (i + 1) ∧ byteS s (i + 1) ≤ 191) := by unfold moreP; omega
  have e2 : moreP s (i + 2) ↔ (2 < s.size - i ∧ 128 ≤ byteS s (i + 2) ∧ byteS s (i + 2) ≤ 191) := by unfold moreP; omega
  have e3 : moreP s (i + 3) ↔ (3 < s.size - i ∧ 128 ≤ byteS s (i + 3) ∧ byteS s (i + 3) ≤ 191) := by unfold moreP; omega
  have l0 := byteS_lt s i
  have l1 := byteS_lt s (i + 1)
  have l2 := byteS_lt s (i + 2)
  have l3 := byteS_lt s (i + 3)
  unfold oneV moreV
  simp only [e1, e2, e3]
  show (_ → (Lib.decodeN (s.size - i) (byteS s i) (byteS s (i + 1)) (byteS s (i + 2)) (byteS s (i + 3))).1 = 65533) ∧ (_ → _ = ((Lib.decodeN (s.size - i) (byteS s i) (byteS s (i + 1)) (byteS s (i + 2)) (byteS s (i + 3))).1 : Int) ∧ _ = ((Lib.decodeN (s.size - i) (byteS s i) (byteS s (i + 1)) (byteS s (i + 2)) (byteS s (i + 3))).2 : Int) ∧ (Lib.decodeN (s.size - i) (byteS s i) (byteS s (i + 1)) (byteS s (i + 2)) (byteS s (i + 3))).1 ≠ 65533)
  have hn : 0 < s.size - i := by omega
  clear e1 e2 e3
  generalize s.size - i = n at *
  generalize byteS s i = b0 at *
  generalize byteS s (i + 1) = b1 at *
  generalize byteS s (i + 2) = b2 at *
  generalize byteS s (i + 3) = b3 at *
  unfold Lib.decodeN badP goodP
  by_cases h0 : b0 < 128
  · simp only [h0, if_true]
    refine ⟨fun h => ?_, fun h => ⟨?_, ?_, ?_⟩⟩ <;> first | trivial | omega
  simp only [h0, if_false]
  by_cases hA : (194 ≤ b0 ∧ b0 ≤ 223) ∧ 1 < n ∧ 128 ≤ b1 ∧ b1 ≤ 191
  · obtain ⟨⟨a1, a2⟩, a3, a4, a5⟩ := hA
    have c1 : b0 / 32 = 6 ∧ 1 < n ∧ b1 / 64 = 2 := by omega
    have c2 : b0 % 32 * 64 + b1 % 64 ≥ 128 := by omega
    rw [if_pos ⟨⟨a1, a2⟩, a3, a4, a5⟩, if_pos c1, if_pos c2, if_pos ⟨a3, a4, a5⟩]
    dsimp only
    refine ⟨fun h => ?_, fun h => ⟨?_, ?_, ?_⟩⟩ <;> omega
  rw [if_neg hA]
  by_cases hB : (224 ≤ b0 ∧ b0 ≤ 239) ∧ (1 < n ∧ 128 ≤ b1 ∧ b1 ≤ 191) ∧ 2 < n ∧ 128 ≤ b2 ∧ b2 ≤ 191
  · obtain ⟨⟨a1, a2⟩, ⟨a3, a4, a5⟩, a6, a7, a8⟩ := hB
    have c0 : ¬ (b0 / 32 = 6 ∧ 1 < n ∧ b1 / 64 = 2) := by omega
    have c1 : b0 / 16 = 14 ∧ (1 < n ∧ b1 / 64 = 2) ∧ 2 < n ∧ b2 / 64 = 2 := by omega
    rw [if_pos ⟨⟨a1, a2⟩, ⟨a3, a4, a5⟩, a6, a7, a8⟩, if_neg c0, if_pos c1, if_pos ⟨a3, a4, a5⟩, if_pos ⟨a6, a7, a8⟩]
    clear c0 c1 hA
    split
    all_goals
      dsimp only
      refine ⟨fun h => ?_, fun h => ⟨?_, ?_, ?_⟩⟩ <;> omega
  rw [if_neg hB]
  by_cases hC : (240 ≤ b0 ∧ b0 ≤ 244) ∧ (1 < n ∧ 128 ≤ b1 ∧ b1 ≤ 191) ∧ (2 < n ∧ 128 ≤ b2 ∧ b2 ≤ 191) ∧ 3 < n ∧ 128 ≤ b3 ∧ b3 ≤ 191
  · obtain ⟨⟨a1, a2⟩, ⟨a3, a4, a5⟩, ⟨a6, a7, a8⟩, a9, a10, a11⟩ := hC
    have c0 : ¬ (b0 / 32 = 6 ∧ 1 < n ∧ b1 / 64 = 2) := by omega
    have c1 : ¬ (b0 / 16 = 14 ∧ (1 < n ∧ b1 / 64 = 2) ∧ 2 < n ∧ b2 / 64 = 2) := by omega
    have c2 : b0 / 8 = 30 ∧ (1 < n ∧ b1 / 64 = 2) ∧ (2 < n ∧ b2 / 64 = 2) ∧ 3 < n ∧ b3 / 64 = 2 := by omega
    rw [if_pos ⟨⟨a1, a2⟩, ⟨a3, a4, a5⟩, ⟨a6, a7, a8⟩, a9, a10, a11⟩, if_neg c0, if_neg c1, if_pos c2, if_pos ⟨a3, a4, a5⟩, if_pos ⟨a6, a7, a8⟩, if_pos ⟨a9, a10, a11⟩]
    clear c0 c1 c2 hA hB
    split
    all_goals
      dsimp only
      refine ⟨fun h => ?_, fun h => ⟨?_, ?_, ?_⟩⟩ <;> omega
  rw [if_neg hC]
  refine ⟨fun _ => ?_, fun h => absurd (Or.inl rfl) h⟩
  by_cases d1 : b0 / 32 = 6 ∧ 1 < n ∧ b1 / 64 = 2
  · rw [if_pos d1, if_neg (by omega)]
  rw [if_neg d1]
  by_cases d2 : b0 / 16 = 14 ∧ (1 < n ∧ b1 / 64 = 2) ∧ 2 < n ∧ b2 / 64 = 2
  · omega
  rw [if_neg d2]
  by_cases d3 : b0 / 8 = 30 ∧ (1 < n ∧ b1 / 64 = 2) ∧ (2 < n ∧ b2 / 64 = 2) ∧ 3 < n ∧ b3 / 64 = 2
  · rw [if_pos d3, if_neg (by omega)]
  rw [if_neg d3]
end Go.Proofs.Ytbimbgcejeeinaa
/- contracts of the document's 'one' and Runes -/
namespace Go.Proofs.Ytbimbgcejeeinaa
open Go.RowKit
set_option linter.unusedVariables false
set_option maxRecDepth 20000
set_option maxRecDepth 100000 in
set_option maxHeartbeats 6400000 in
theorem one_any (s : ByteArray) (i : Nat) (w : World) (hs : s.size ≤ 1048576) (hi : i < s.size) :
    Calls Try.prog 107 #[.string s, .int .i64 i] w fun e w' => e = .returned (.tuple #[.int .i32 (oneV s i).1, .int .i64 (oneV s i).2]) ∧ w = w' := by
  have hx := byteS_at s i hi
  have hb := byteS_lt s i
  obtain ⟨p1, hp1⟩ : ∃ p, decide (moreP s (i + 1)) = p := ⟨_, rfl⟩
  obtain ⟨p2, hp2⟩ : ∃ p, decide (moreP s (i + 2)) = p := ⟨_, rfl⟩
  obtain ⟨p3, hp3⟩ : ∃ p, decide (moreP s (i + 3)) = p := ⟨_, rfl⟩
  have i1 : moreP s (i + 1) ↔ p1 = true := by rw [← hp1]; simp
  have i2 : moreP s (i + 2) ↔ p2 = true := by rw [← hp2]; simp
  have i3 : moreP s (i + 3) ↔ p3 = true := by rw [← hp3]; simp
  obtain ⟨A, hA⟩ : ∃ A, moreV s (i + 1) = A := ⟨_, rfl⟩
  obtain ⟨B, hB⟩ : ∃ A, moreV s (i + 2) = A := ⟨_, rfl⟩
  obtain ⟨C, hC⟩ : ∃ A, moreV s (i + 3) = A := ⟨_, rfl⟩
  have m1 := Lib.hid (more_lit s (i + 1) ((i : Int) + 1) w hs (by omega) p1 A (by omega) hp1 hA)
  have m2 := Lib.hid (more_lit s (i + 2) ((i : Int) + 2) w hs (by omega) p2 B (by omega) hp2 hB)
  have m3 := Lib.hid (more_lit s (i + 3) ((i : Int) + 3) w hs (by omega) p3 C (by omega) hp3 hC)
  have bA := moreV_bd s (i + 1); have bB := moreV_bd s (i + 2); have bC := moreV_bd s (i + 3)
  rw [hA] at bA; rw [hB] at bB; rw [hC] at bC
  unfold oneV
  simp only [i1, i2, i3]
  rw [hA, hB, hC]
  obtain ⟨x, hx2⟩ : ∃ x, byteS s i = x := ⟨_, rfl⟩
  rw [hx2] at hx hb
  rw [hx2]
  have j1 : IntKind.i64.wrap ((i : Int) + 1) = (i : Int) + 1 := IntWalk.i64_in _ (by omega)
  have j2 : IntKind.i64.wrap ((i : Int) + 2) = (i : Int) + 2 := IntWalk.i64_in _ (by omega)
  have j3 : IntKind.i64.wrap ((i : Int) + 3) = (i : Int) + 3 := IntWalk.i64_in _ (by omega)
  clear hx2 hA hB hC hp1 hp2 hp3 i1 i2 i3
  have hcase : x < 128 ∨ (128 ≤ x ∧ x < 194) ∨ (128 ≤ x ∧ 194 ≤ x ∧ x ≤ 223) ∨ (128 ≤ x ∧ 194 ≤ x ∧ 223 < x ∧ 224 ≤ x ∧ x ≤ 239) ∨ (128 ≤ x ∧ 194 ≤ x ∧ 223 < x ∧ 224 ≤ x ∧ 239 < x ∧ 240 ≤ x ∧ x ≤ 244) ∨ (128 ≤ x ∧ 194 ≤ x ∧ 223 < x ∧ 224 ≤ x ∧ 239 < x ∧ 240 ≤ x ∧ 244 < x) := by omega
  rcases hcase with c1 | ⟨c0, c1⟩ | ⟨c0, c1, c2⟩ | ⟨c0, c1, c2, c3, c4⟩ | ⟨c0, c1, c2, c3, c4, c5, c6⟩ | ⟨c0, c1, c2, c3, c4, c5, c6⟩
  · rw [if_pos c1]
    go_enter Try.func107, Try.ntmps107
    go_wp2_with fail
    refine m1.out.mono ?_
    rintro e w' ⟨rfl, rfl⟩
    go_wp2_with fail
    refine m2.out.mono ?_
    rintro e w' ⟨rfl, rfl⟩
    go_wp2_with fail
    refine m3.out.mono ?_
    rintro e w' ⟨rfl, rfl⟩
    go_wp2_with fail
    go_ret2
    exact ⟨rfl, rfl⟩
  · rw [if_neg (by omega), if_neg (by omega), if_neg (by omega), if_neg (by omega)]
    go_enter Try.func107, Try.ntmps107
    go_wp2_with fail
    refine m1.out.mono ?_
    rintro e w' ⟨rfl, rfl⟩
    go_wp2_with fail
    refine m2.out.mono ?_
    rintro e w' ⟨rfl, rfl⟩
    go_wp2_with fail
    refine m3.out.mono ?_
    rintro e w' ⟨rfl, rfl⟩
    go_wp2_with fail
    go_ret2
    exact ⟨rfl, rfl⟩
  · rw [if_neg (by omega)]
    cases p1
    · rw [if_neg (by simp), if_neg (by omega), if_neg (by omega)]
      go_enter Try.func107, Try.ntmps107
      go_wp2_with fail
      refine m1.out.mono ?_
      rintro e w' ⟨rfl, rfl⟩
      go_wp2_with fail
      refine m2.out.mono ?_
      rintro e w' ⟨rfl, rfl⟩
      go_wp2_with fail
      refine m3.out.mono ?_
      rintro e w' ⟨rfl, rfl⟩
      go_wp2_with fail
      go_ret2
      exact ⟨rfl, rfl⟩
    · rw [if_pos ⟨⟨c1, c2⟩, rfl⟩]
      go_enter Try.func107, Try.ntmps107
      go_wp2_with fail
      refine m1.out.mono ?_
      rintro e w' ⟨rfl, rfl⟩
      go_wp2_with fail
      refine m2.out.mono ?_
      rintro e w' ⟨rfl, rfl⟩
      go_wp2_with fail
      refine m3.out.mono ?_
      rintro e w' ⟨rfl, rfl⟩
      go_wp2_with fail
      go_ret2
      exact ⟨rfl, rfl⟩
  · rw [if_neg (by omega), if_neg (by omega)]
    by_cases hp : p1 = true ∧ p2 = true
    · obtain ⟨rfl, rfl⟩ := hp
      rw [if_pos ⟨⟨c3, c4⟩, rfl, rfl⟩]
      go_enter Try.func107, Try.ntmps107
      go_wp2_with fail
      refine m1.out.mono ?_
      rintro e w' ⟨rfl, rfl⟩
      go_wp2_with fail
      refine m2.out.mono ?_
      rintro e w' ⟨rfl, rfl⟩
      go_wp2_with fail
      refine m3.out.mono ?_
      rintro e w' ⟨rfl, rfl⟩
      go_wp2_with fail
      go_ret2
      exact ⟨rfl, rfl⟩
    · rw [if_neg (fun h => hp h.2), if_neg (by omega)]
      cases p1 <;> cases p2 <;> simp at hp
      all_goals
        clear hp
        go_enter Try.func107, Try.ntmps107
        go_wp2_with fail
        refine m1.out.mono ?_
        rintro e w' ⟨rfl, rfl⟩
        go_wp2_with fail
        refine m2.out.mono ?_
        rintro e w' ⟨rfl, rfl⟩
        go_wp2_with fail
        refine m3.out.mono ?_
        rintro e w' ⟨rfl, rfl⟩
        go_wp2_with fail
        go_ret2
        exact ⟨rfl, rfl⟩
  · rw [if_neg (by omega), if_neg (by omega), if_neg (by omega)]
    by_cases hp : p1 = true ∧ p2 = true ∧ p3 = true
    · obtain ⟨rfl, rfl, rfl⟩ := hp
      rw [if_pos ⟨⟨c5, c6⟩, rfl, rfl, rfl⟩]
      go_enter Try.func107, Try.ntmps107
      go_wp2_with fail
      refine m1.out.mono ?_
      rintro e w' ⟨rfl, rfl⟩
      go_wp2_with fail
      refine m2.out.mono ?_
      rintro e w' ⟨rfl, rfl⟩
      go_wp2_with fail
      refine m3.out.mono ?_
      rintro e w' ⟨rfl, rfl⟩
      go_wp2_with fail
      go_ret2
      exact ⟨rfl, rfl⟩
    · rw [if_neg (fun h => hp h.2)]
      cases p1 <;> cases p2 <;> cases p3 <;> simp at hp
      all_goals
        clear hp
        go_enter Try.func107, Try.ntmps107
        go_wp2_with fail
        refine m1.out.mono ?_
        rintro e w' ⟨rfl, rfl⟩
        go_wp2_with fail
        refine m2.out.mono ?_
        rintro e w' ⟨rfl, rfl⟩
        go_wp2_with fail
        refine m3.out.mono ?_
        rintro e w' ⟨rfl, rfl⟩
        go_wp2_with fail
        go_ret2
        exact ⟨rfl, rfl⟩
  · rw [if_neg (by omega), if_neg (by omega), if_neg (by omega), if_neg (by omega)]
    go_enter Try.func107, Try.ntmps107
    go_wp2_with fail
    refine m1.out.mono ?_
    rintro e w' ⟨rfl, rfl⟩
    go_wp2_with fail
    refine m2.out.mono ?_
    rintro e w' ⟨rfl, rfl⟩
    go_wp2_with fail
    refine m3.out.mono ?_
    rintro e w' ⟨rfl, rfl⟩
    go_wp2_with fail
    go_ret2
    exact ⟨rfl, rfl⟩
end Go.Proofs.Ytbimbgcejeeinaa
/- contract of the document's Runes of a text -/
namespace Go.Proofs.Ytbimbgcejeeinaa
open Go.RowKit
set_option linter.unusedVariables false
set_option maxRecDepth 20000
def RunesP (s : ByteArray) (w : World) (e : Ending) (w' : World) : Prop :=
  (0 ≤ lenS s ∧ ∃ a c, e = .returned (.tuple #[.slice a (runesS s).length c, .bool true]) ∧ HoldsI .i32 w' a (runesS s).length (intsN (runesS s)) ∧ (a = none → (runesS s).length = 0 ∧ c = 0) ∧ Below w.heap.size w w') ∨
  (lenS s < 0 ∧ e = .returned (.tuple #[.slice none 0 0, .bool false]) ∧ Below w.heap.size w w')
/-- the same, told by its memory -/
def RunesQ (s : ByteArray) (w : World) (e : Ending) (w' : World) : Prop :=
  (0 ≤ lenS s ∧ ∃ a c, e = .returned (.tuple #[.slice a (runesS s).length c, .bool true]) ∧ w'.ownsRow w.heap.size 21 1 (.slice a (runesS s).length c) (runesS s).length (runesV (intsN (runesS s))) ∧ Below w.heap.size w w') ∨
  (lenS s < 0 ∧ e = .returned (.tuple #[.slice none 0 0, .bool false]) ∧ Below w.heap.size w w')
theorem intsN_len (P : List Nat) : (intsN P).length = P.length := by simp [intsN]
theorem one_size (s : ByteArray) (i : Nat) : 0 ≤ (oneV s i).2 ∧ (oneV s i).2 ≤ 4 := by unfold oneV; split <;> (try split) <;> (try split) <;> (try split) <;> simp
theorem runesS_bad {s : ByteArray} {P : List Nat} {pos f : Nat} (hP : runesS s = P ++ runesN s f pos) (hlt : pos < s.size) (hf : s.size ≤ pos + f) (h : (Utf8.decode s pos).1 = 65533) : lenS s < 0 := by
  obtain ⟨g, rfl, hst, _⟩ := runesN_step s f pos hlt hf
  rw [hst, h] at hP
  rw [lenS_bad hP]; omega
set_option maxRecDepth 100000 in
set_option maxHeartbeats 6400000 in
theorem r1runesq_any (s : ByteArray) (w : World) (hs : s.size ≤ 1048576) :
    Calls Try.prog 94 #[.string s] w (RunesQ s w) := by
  obtain ⟨i0, hi, hz0, hz1, hz2⟩ := info_parts i32_info
  go_enter Try.func94, Try.ntmps94
  go_wp2_with fail
  go_loopw [4, 5] (fun lv iv wr => ∃ (pos f : Nat) (P : List Nat), s.size ≤ pos + f ∧ iv = .int .i64 pos ∧ pos ≤ s.size + 4 ∧ Hid (runesS s = P ++ runesN s f pos) ∧ Hid (∀ r ∈ P, r ≠ 65533) ∧ Hid (wr.ownsRow w.heap.size 21 1 lv P.length (runesV (intsN P))) ∧ Hid (Below w.heap.size w wr)) (fun _ iv _ => s.size - (intOf iv).toNat)
  case atStart => exact ⟨0, s.size, [], by omega, rfl, by omega, Lib.hid rfl, Lib.hid (by simp), Lib.hid (World.ownsRow_nil _ _ _ _), Lib.hid (Below.refl _ _)⟩
  case round =>
    obtain ⟨pos, f, P, hf, rfl, hpos, hP, hG, hO, hB⟩ := hrel
    by_cases hlt : pos < s.size
    · obtain ⟨d1, d2⟩ := one_decode s pos hlt
      have hbn := one_size s pos
      have hone := Lib.hid (one_any s pos wr hs hlt)
      obtain ⟨R, hR⟩ : ∃ R, (oneV s pos).1 = R := ⟨_, rfl⟩
      obtain ⟨N, hN⟩ : ∃ R, (oneV s pos).2 = R := ⟨_, rfl⟩
      rw [hR, hN] at d1 d2 hone
      rw [hN] at hbn
      clear hR hN
      have BAD := Lib.hid (fun h => runesS_bad hP.out hlt hf (d1 h))
      have GOOD := Lib.hid d2
      clear d1 d2
      have hgd := Lib.hid (good_any R wr)
      by_cases n0 : N = 0
      · have hneg := Lib.hid (BAD.out (Or.inl n0))
        have y1 : (N == 0) = true := by simp [n0]
        clear n0 hgd GOOD BAD
        go_wp2_with fail
        refine hone.out.mono ?_
        rintro e w' ⟨rfl, rfl⟩
        go_wp2_with fail
        go_ret2
        exact Or.inr ⟨hneg.out, rfl, hB.out⟩
      have y1 : (N == 0) = false := by simpa using n0
      by_cases gd : goodP R
      case neg =>
        have hneg := Lib.hid (BAD.out (Or.inr (Or.inl gd)))
        rw [decide_eq_false gd] at hgd
        clear gd GOOD BAD
        go_wp2_with fail
        refine hone.out.mono ?_
        rintro e w' ⟨rfl, rfl⟩
        go_wp2_with fail
        refine hgd.out.mono ?_
        rintro e w' ⟨rfl, rfl⟩
        go_wp2_with fail
        go_ret2
        exact Or.inr ⟨hneg.out, rfl, hB.out⟩
      rw [decide_eq_true gd] at hgd
      by_cases c3 : N = 3 ∧ R < 2048
      · have hneg := Lib.hid (BAD.out (Or.inr (Or.inr (Or.inl c3))))
        obtain ⟨c3, c4⟩ := c3
        subst c3
        clear gd GOOD BAD
        go_wp2_with fail
        refine hone.out.mono ?_
        rintro e w' ⟨rfl, rfl⟩
        go_wp2_with fail
        refine hgd.out.mono ?_
        rintro e w' ⟨rfl, rfl⟩
        go_wp2_with fail
        go_ret2
        exact Or.inr ⟨hneg.out, rfl, hB.out⟩
      by_cases c5 : N = 4 ∧ R < 65536
      · have hneg := Lib.hid (BAD.out (Or.inr (Or.inr (Or.inr c5))))
        obtain ⟨c5, c6⟩ := c5
        subst c5
        clear gd GOOD BAD
        go_wp2_with fail
        refine hone.out.mono ?_
        rintro e w' ⟨rfl, rfl⟩
        go_wp2_with fail
        refine hgd.out.mono ?_
        rintro e w' ⟨rfl, rfl⟩
        go_wp2_with fail
        go_ret2
        exact Or.inr ⟨hneg.out, rfl, hB.out⟩
      have hok := GOOD.out (fun h => by rcases h with h | h | h | h; exact n0 h; exact h gd; exact c3 h; exact c5 h)
      obtain ⟨g, rfl, hst, hg⟩ := runesN_step s f pos hlt hf
      have hwd := decode_width s pos hlt
      obtain ⟨r, hr⟩ : ∃ r, (Utf8.decode s pos).1 = r := ⟨_, rfl⟩
      obtain ⟨wd, hwd2⟩ : ∃ wd, (Utf8.decode s pos).2 = wd := ⟨_, rfl⟩
      rw [hr, hwd2] at hok hst; rw [hwd2] at hg hwd
      obtain ⟨hRr, rfl, hne⟩ := hok
      have HRr := Lib.hid hRr
      have hlen : P.length < s.size := by
        have h1 := congrArg List.length hP.out
        rw [hst, List.length_append, List.length_cons] at h1
        have := runesS_le s
        omega
      have HST := Lib.hid hst; have NE := Lib.hid hne
      have hN : wd = 1 ∨ wd = 2 ∨ wd = 3 ∨ wd = 4 := by omega
      have c3' : wd = 3 → (2048 : Int) ≤ R := by omega
      have c5' : wd = 4 → (65536 : Int) ≤ R := by omega
      clear hst hr hwd2 hne hRr GOOD BAD gd n0 c3 c5 y1
      rcases hN with hN | hN | hN | hN
      · clear c3' c5'
        subst hN
        go_wp2_with fail
        refine hone.out.mono ?_
        rintro e w' ⟨rfl, rfl⟩
        go_wp2_with fail
        refine hgd.out.mono ?_
        rintro e w' ⟨rfl, rfl⟩
        go_wp2_with (at_builtin; refine wpList_append_any rfl (.tmp 41) (.tmp 43) 125 rfl w.heap.size 21 i0 (.int .i32 0) 1 4 Try.underlying125 hi hz0 hz1 hz2 rfl (by decide) _ P.length _ rfl (hO.out.alloc _) _ 1 1 _ rfl (some_none _) rfl (one_new _ _ _ _) (one_int _ _) (by unfold maxLen; omega) (by omega) (by have := hB.out.size; simp; omega) ?_; intro a3 c3 w3 hown3 hb3 hnil3)
        rw [HRr.out, ← runesV_snoc] at hown3
        have O3 := Lib.hid hown3
        have B3 := Lib.hid ((hB.out.alloc hB.out.size _).trans hb3)
        clear hown3 hb3 hnil3 hO hB
        go_roundw
        case rel => exact ⟨pos + _, g, P ++ [r], hg, by go_num, by omega, Lib.hid (by rw [hP.out, HST.out]; simp), Lib.hid (by intro x hx; rcases List.mem_append.1 hx with hx | hx; exact hG.out x hx; simp at hx; rw [hx]; exact NE.out), by rw [List.length_append]; exact O3, B3⟩
        case measure => simp [intOf]; omega
      · clear c3' c5'
        subst hN
        go_wp2_with fail
        refine hone.out.mono ?_
        rintro e w' ⟨rfl, rfl⟩
        go_wp2_with fail
        refine hgd.out.mono ?_
        rintro e w' ⟨rfl, rfl⟩
        go_wp2_with (at_builtin; refine wpList_append_any rfl (.tmp 41) (.tmp 43) 125 rfl w.heap.size 21 i0 (.int .i32 0) 1 4 Try.underlying125 hi hz0 hz1 hz2 rfl (by decide) _ P.length _ rfl (hO.out.alloc _) _ 1 1 _ rfl (some_none _) rfl (one_new _ _ _ _) (one_int _ _) (by unfold maxLen; omega) (by omega) (by have := hB.out.size; simp; omega) ?_; intro a3 c3 w3 hown3 hb3 hnil3)
        rw [HRr.out, ← runesV_snoc] at hown3
        have O3 := Lib.hid hown3
        have B3 := Lib.hid ((hB.out.alloc hB.out.size _).trans hb3)
        clear hown3 hb3 hnil3 hO hB
        go_roundw
        case rel => exact ⟨pos + _, g, P ++ [r], hg, by go_num, by omega, Lib.hid (by rw [hP.out, HST.out]; simp), Lib.hid (by intro x hx; rcases List.mem_append.1 hx with hx | hx; exact hG.out x hx; simp at hx; rw [hx]; exact NE.out), by rw [List.length_append]; exact O3, B3⟩
        case measure => simp [intOf]; omega
      · have c6 := c3' hN
        clear c3' c5'
        subst hN
        go_wp2_with fail
        refine hone.out.mono ?_
        rintro e w' ⟨rfl, rfl⟩
        go_wp2_with fail
        refine hgd.out.mono ?_
        rintro e w' ⟨rfl, rfl⟩
        go_wp2_with (at_builtin; refine wpList_append_any rfl (.tmp 41) (.tmp 43) 125 rfl w.heap.size 21 i0 (.int .i32 0) 1 4 Try.underlying125 hi hz0 hz1 hz2 rfl (by decide) _ P.length _ rfl (hO.out.alloc _) _ 1 1 _ rfl (some_none _) rfl (one_new _ _ _ _) (one_int _ _) (by unfold maxLen; omega) (by omega) (by have := hB.out.size; simp; omega) ?_; intro a3 c3 w3 hown3 hb3 hnil3)
        rw [HRr.out, ← runesV_snoc] at hown3
        have O3 := Lib.hid hown3
        have B3 := Lib.hid ((hB.out.alloc hB.out.size _).trans hb3)
        clear hown3 hb3 hnil3 hO hB
        go_roundw
        case rel => exact ⟨pos + _, g, P ++ [r], hg, by go_num, by omega, Lib.hid (by rw [hP.out, HST.out]; simp), Lib.hid (by intro x hx; rcases List.mem_append.1 hx with hx | hx; exact hG.out x hx; simp at hx; rw [hx]; exact NE.out), by rw [List.length_append]; exact O3, B3⟩
        case measure => simp [intOf]; omega
      · have c6 := c5' hN
        clear c3' c5'
        subst hN
        go_wp2_with fail
        refine hone.out.mono ?_
        rintro e w' ⟨rfl, rfl⟩
        go_wp2_with fail
        refine hgd.out.mono ?_
        rintro e w' ⟨rfl, rfl⟩
        go_wp2_with (at_builtin; refine wpList_append_any rfl (.tmp 41) (.tmp 43) 125 rfl w.heap.size 21 i0 (.int .i32 0) 1 4 Try.underlying125 hi hz0 hz1 hz2 rfl (by decide) _ P.length _ rfl (hO.out.alloc _) _ 1 1 _ rfl (some_none _) rfl (one_new _ _ _ _) (one_int _ _) (by unfold maxLen; omega) (by omega) (by have := hB.out.size; simp; omega) ?_; intro a3 c3 w3 hown3 hb3 hnil3)
        rw [HRr.out, ← runesV_snoc] at hown3
        have O3 := Lib.hid hown3
        have B3 := Lib.hid ((hB.out.alloc hB.out.size _).trans hb3)
        clear hown3 hb3 hnil3 hO hB
        go_roundw
        case rel => exact ⟨pos + _, g, P ++ [r], hg, by go_num, by omega, Lib.hid (by rw [hP.out, HST.out]; simp), Lib.hid (by intro x hx; rcases List.mem_append.1 hx with hx | hx; exact hG.out x hx; simp at hx; rw [hx]; exact NE.out), by rw [List.length_append]; exact O3, B3⟩
        case measure => simp [intOf]; omega
    · have he : runesS s = P := by rw [hP.out, runesN_end s f pos hlt, List.append_nil]
      have HE := Lib.hid he
      clear he
      obtain ⟨a4, c4, rfl⟩ : ∃ a4 c4, u4 = .slice a4 P.length c4 := by
        rcases hO.out.2 with ⟨h, h0⟩ | ⟨g', c', cur, h, _⟩
        · exact ⟨none, 0, by rw [h, h0]⟩
        · exact ⟨_, c', h⟩
      have hgood := lenS_good (s := s) (by rw [HE.out]; exact hG.out)
      have HG2 := Lib.hid hgood
      clear hgood
      go_wp2_with fail
      go_ret2
      exact Or.inl ⟨by rw [HG2.out]; omega, a4, c4, by rw [HE.out]; rfl, by rw [HE.out]; exact hO.out, hB.out⟩
theorem holdsI_own {w : World} {B : Nat} {a : Option Addr} {c : Nat} {P : List Nat} (h : w.ownsRow B 21 1 (.slice a P.length c) P.length (runesV (intsN P))) : HoldsI .i32 w a P.length (intsN P) := by
  have hv := owns_holds h
  refine ⟨intsN_len P, fun h0 => ?_⟩
  obtain ⟨b, o, ha, hc⟩ := hv.2 h0
  exact ⟨b, o, ha, fun i hi => by rw [hc i hi, runesV, getD_map_int .i32 _ i (by rw [intsN_len]; exact hi)]⟩
theorem r1runes_any (s : ByteArray) (w : World) (hs : s.size ≤ 1048576) :
    Calls Try.prog 94 #[.string s] w (RunesP s w) := by
  refine (r1runesq_any s w hs).mono ?_
  rintro e w' (⟨h1, a, c, rfl, h2, h3⟩ | h)
  · exact Or.inl ⟨h1, a, c, rfl, holdsI_own h2, (owns_none h2).1, h3⟩
  · exact Or.inr h
end Go.Proofs.Ytbimbgcejeeinaa
/- contract of the document's Len -/
namespace Go.Proofs.Ytbimbgcejeeinaa
open Go.RowKit
set_option linter.unusedVariables false
set_option maxRecDepth 20000
set_option maxHeartbeats 800000 in
theorem rlen_any (s : ByteArray) (w : World) (hs : s.size ≤ 1048576) :
    Calls Try.prog 62 #[.string s] w fun e w' => e = .returned (.int .i64 (lenS s)) ∧ Below w.heap.size w w' := by
  have hr := Lib.hid (r1runes_any s w hs)
  by_cases hg : 0 ≤ lenS s
  · have hL := (lenS_pos hg).2
    have HL := Lib.hid hL; have HG := Lib.hid hg
    clear hg hL
    obtain ⟨n, hn⟩ : ∃ n, (runesS s).length = n := ⟨_, rfl⟩
    have hle := runesS_le s
    unfold RunesP at hr
    rw [hn] at hr hle
    rw [hn] at HL
    clear hn
    go_enter Try.func62, Try.ntmps62
    go_wp2_with fail
    refine hr.out.mono ?_
    rintro e w1 (⟨h1, a, c, rfl, h2, h3, h4⟩ | ⟨h1, _⟩)
    rotate_left
    · exact absurd HG.out (by omega)
    have H4 := Lib.hid h4
    clear h1 h2 h3 h4
    go_wp2_with fail
    go_ret
    exact ⟨ret_int HL.out.symm, H4.out⟩
  · have hb : lenS s = -1 := by have := (lenS_bd s).1; omega
    have HB := Lib.hid hb; have HG := Lib.hid hg
    clear hg hb
    go_enter Try.func62, Try.ntmps62
    go_wp2_with fail
    refine hr.out.mono ?_
    rintro e w1 (⟨h1, _⟩ | ⟨h1, rfl, h2⟩)
    · exact absurd h1 (by have := HG.out; omega)
    clear h1
    go_wp2_with fail
    go_ret
    exact ⟨ret_int HB.out.symm, h2⟩
end Go.Proofs.Ytbimbgcejeeinaa
/- contract of the document's Word -/
namespace Go.Proofs.Ytbimbgcejeeinaa
open Go.RowKit
set_option linter.unusedVariables false
set_option maxRecDepth 20000
theorem rword_any (s : ByteArray) (w : World) (hs : s.size ≤ 1048576) :
    Calls Try.prog 60 #[.string s] w fun e w' => e = .returned (.bool (decide (1 ≤ lenS s ∧ lenS s ≤ 12))) ∧ Below w.heap.size w w' := by
  have h1 := Lib.hid (fun w => rlen_any s w hs)
  obtain ⟨n, hn⟩ : ∃ n, lenS s = n := ⟨_, rfl⟩
  rw [hn]
  simp only [hn] at h1
  clear hn
  by_cases h : 1 ≤ n
  · rw [show decide (1 ≤ n ∧ n ≤ 12) = decide (n ≤ 12) by simp [h]]
    go_enter Try.func60, Try.ntmps60
    go_wp2_with fail
    refine (h1.out _).mono ?_
    rintro e w1 ⟨rfl, hb⟩
    go_wp2_with fail
    refine (h1.out _).mono ?_
    rintro e w2 ⟨rfl, hb2⟩
    go_wp2_with fail
    go_ret
    exact ⟨rfl, hb.trans (hb2.mono hb.size)⟩
  · rw [show decide (1 ≤ n ∧ n ≤ 12) = false by simp [h]]
    go_enter Try.func60, Try.ntmps60
    go_wp2_with fail
    refine (h1.out _).mono ?_
    rintro e w1 ⟨rfl, hb⟩
    go_wp2_with fail
    go_ret
    exact ⟨rfl, hb⟩
end Go.Proofs.Ytbimbgcejeeinaa
/- contract of the document's Good (lists) -/
namespace Go.Proofs.Ytbimbgcejeeinaa
open Go.RowKit
set_option linter.unusedVariables false
set_option maxRecDepth 20000
theorem rword_bool {w : World} (s : Tx) (b : Bool) (hs : s.size ≤ 1048576) (hb : decide (wordP s) = b) :
    Calls Try.prog 60 #[.string s] w fun e w' => e = .returned (.bool b) ∧ Below w.heap.size w w' := by subst hb; exact rword_any s w hs
set_option maxHeartbeats 1600000 in
theorem rgood_any (a : Option Addr) (n cap : Nat) (ts : List Tx) (w : World) (hh : HoldsT w a n ts) (hn : n ≤ 9223372036854775807) (hsz : ∀ t ∈ ts, t.size ≤ 1048576) :
    Calls Try.prog 41 #[.slice a n cap] w fun e w' => e = .returned (.int .i64 (goodV ts)) ∧ Below w.heap.size w w' := by
  have hl := hh.len
  by_cases h60 : n ≤ 60
  case neg =>
    rw [goodV_long (by omega)]
    go_enter Try.func41, Try.ntmps41
    go_wp2_with fail
    go_ret
    exact ⟨rfl, Below.refl _ _⟩
  go_enter Try.func41, Try.ntmps41
  go_wp2_with fail
  go_loopw [3] (fun iv wr => ∃ j : Nat, j ≤ n ∧ iv = .int .i64 j ∧ Hid (∀ t ∈ ts.take j, wordP t) ∧ Hid (Below w.heap.size w wr)) (fun iv _ => n - (intOf iv).toNat)
  case atStart => exact ⟨0, by omega, rfl, Lib.hid (by simp), Lib.hid (Below.refl _ _)⟩
  case round =>
    obtain ⟨j, hj, rfl, hS, hB⟩ := hrel
    by_cases hlt : j < n
    · obtain ⟨b, o, rfl, hc⟩ := (hh.below hB.out).at (by omega)
      have e1 := hc j hlt
      have hmem := getD_memT ts j (by omega)
      have htk := take_succ_getD ts ByteArray.empty j (by omega)
      obtain ⟨x, hx⟩ : ∃ x, ts.getD j ByteArray.empty = x := ⟨_, rfl⟩
      rw [hx] at e1 hmem htk
      have HX := Lib.hid (hsz x hmem)
      have HM := Lib.hid hmem; have HT := Lib.hid htk
      clear hx hmem htk hc
      by_cases hw : wordP x
      · have hb := decide_eq_true hw
        have HW := Lib.hid hw; have HD := Lib.hid hb
        clear hw hb
        go_wp2_with fail
        refine (rword_bool x true HX.out HD.out).mono ?_
        rintro e w2 ⟨rfl, hb2⟩
        go_wp2_with fail
        go_roundw
        case rel => exact ⟨j + 1, by omega, by go_num, Lib.hid (by rw [HT.out]; intro z hz; rcases List.mem_append.1 hz with hz | hz; exact hS.out z hz; simp at hz; rw [hz]; exact HW.out), Lib.hid (hB.out.trans (hb2.mono hB.out.size))⟩
        case measure => simp [intOf]; omega
      · have hb := decide_eq_false hw
        have hg := goodV_word (by omega) x HM.out hw
        have HD := Lib.hid hb; have HG := Lib.hid hg
        clear hw hb hg
        go_wp2_with fail
        refine (rword_bool x false HX.out HD.out).mono ?_
        rintro e w2 ⟨rfl, hb2⟩
        go_wp2_with fail
        go_ret
        exact ⟨ret_int HG.out.symm, hB.out.trans (hb2.mono hB.out.size)⟩
    · have hjn : ts.take j = ts := List.take_of_length_le (by omega)
      have hwd := hS.out
      rw [hjn] at hwd
      have HW := Lib.hid hwd
      have hB1 := hB
      clear hjn hwd hS hB
      go_wp2_with fail
      go_loopw [4] (fun iv wr2 => ∃ i : Nat, 1 ≤ i ∧ i ≤ n + 1 ∧ iv = .int .i64 i ∧ Hid (∀ k, k + 1 < i → k + 1 < n → cmpS (ts.getD k ByteArray.empty) (ts.getD (k + 1) ByteArray.empty) < 0) ∧ Hid (Below w.heap.size w wr2)) (fun iv _ => n + 1 - (intOf iv).toNat)
      case atStart => exact ⟨1, by omega, by omega, rfl, Lib.hid (fun k h1 => by omega), hB1⟩
      case round =>
        obtain ⟨i, hi1, hi2, rfl, hS, hB⟩ := hrel
        by_cases hlt2 : i < n
        · obtain ⟨b, o, rfl, hc⟩ := (hh.below hB.out).at (by omega)
          have e1 := hc i hlt2
          have e2 := hc (i - 1) (by omega)
          have hci := hS.out
          obtain ⟨q, rfl⟩ : ∃ q, i = q + 1 := ⟨i - 1, by omega⟩
          simp only [Nat.add_sub_cancel] at e2
          obtain ⟨x, hx⟩ : ∃ x, ts.getD q ByteArray.empty = x := ⟨_, rfl⟩
          obtain ⟨y, hy⟩ : ∃ y, ts.getD (q + 1) ByteArray.empty = y := ⟨_, rfl⟩
          rw [hx] at e2; rw [hy] at e1
          have HX := Lib.hid hx; have HY := Lib.hid hy
          clear hx hy hc hci
          have hsx := hsz x (by rw [← HX.out]; exact getD_memT ts q (by omega))
          have hsy := hsz y (by rw [← HY.out]; exact getD_memT ts (q + 1) (by omega))
          have hcmp := Lib.hid (fun w => rcompare_quiet x y w hsx hsy)
          have hbd := cmpS_bd x y
          obtain ⟨v, hv⟩ : ∃ v, cmpS x y = v := ⟨_, rfl⟩
          rw [hv] at hbd
          simp only [hv] at hcmp
          have HV := Lib.hid hv
          clear hv
          have hr : IntKind.i64.wrap (((q + 1 : Nat) : Int) - 1) = (q : Int) := by rw [IntWalk.i64_in _ (by omega)]; omega
          have hr2 : ((q + 1 : Nat) : Int) - 1 = (q : Int) := by omega
          have g1 : (q : Int) < (n : Int) := by omega
          have g2 : ((q + 1 : Nat) : Int) < (n : Int) := by omega
          by_cases hvn : v < 0
          · go_upto_region 11 with fail
            go_quiet ((go_at_call 61; exact Calls.quiet_of (hcmp.out _)))
            go_wp2_with fail
            go_roundw
            case rel =>
              refine ⟨q + 1 + 1, by omega, by omega, by go_num, Lib.hid (fun k h1 h2 => ?_), Lib.hid (hB.out.trans ((below_drewN _ _).mono hB.out.size))⟩
              by_cases hk : k = q
              · subst hk; rw [HX.out, HY.out, HV.out]; exact hvn
              · exact hS.out k (by omega) h2
            case measure => simp [intOf]; omega
          · have hg := goodV_sort (by omega) HW.out (fun hs => hvn (by have := (adj_iff ts).1 hs q (by omega); rw [HX.out, HY.out, HV.out] at this; exact this))
            have HG := Lib.hid hg
            clear hg
            go_upto_region 11 with fail
            go_quiet ((go_at_call 61; exact Calls.quiet_of (hcmp.out _)))
            go_wp2_with fail
            go_ret
            exact ⟨ret_int HG.out.symm, hB.out.trans ((below_drewN _ _).mono hB.out.size)⟩
        · have hg := goodV_good (by omega) HW.out ((adj_iff ts).2 fun k hk => hS.out k (by omega) (by omega))
          have HG := Lib.hid hg
          clear hg
          go_wp2_with fail
          go_ret
          exact ⟨ret_int HG.out.symm, hB.out⟩
end Go.Proofs.Ytbimbgcejeeinaa
/- the document's Less and Good (keys) -/
namespace Go.Proofs.Ytbimbgcejeeinaa
open Go.RowKit
set_option linter.unusedVariables false
set_option maxRecDepth 20000
theorem rcompare_lit (x y : Tx) (v : Int) (w : World) (hx : x.size ≤ 1048576) (hy : y.size ≤ 1048576) (hv : cmpS x y = v) :
    Calls Try.prog 61 #[.string x, .string y] w fun e w' => e = .returned (.int .i64 v) ∧ Below w.heap.size w w' := by subst hv; exact rcompare_any x y w hx hy
theorem rless_any (a b : KV) (w : World) (ha : a.2.size ≤ 1048576) (hb : b.2.size ≤ 1048576) :
    Calls Try.prog 63 #[keyV a, keyV b] w fun e w' => e = .returned (.bool (lessK a b)) ∧ Below w.heap.size w w' := by
  obtain ⟨c, hc⟩ : ∃ c, lessK a b = c := ⟨_, rfl⟩
  rw [hc]
  have hc2 : c = true ↔ (a.1 < b.1 ∨ (a.1 = b.1 ∧ cmpS a.2 b.2 < 0)) := by rw [← ordK_lt, ← hc]; exact decide_eq_true_iff
  clear hc
  obtain ⟨a1, a2⟩ := a
  obtain ⟨b1, b2⟩ := b
  simp only at hc2 ha hb
  unfold keyV
  simp only
  have BB := Lib.hid ((Below.refl w.heap.size w).alloc (Nat.le_refl _) (.cells #[.int .i64 a1, .string a2] 54) |>.alloc (by simp) (.cells #[.int .i64 b1, .string b2] 54))
  rcases Int.lt_trichotomy a1 b1 with h | h | h
  · obtain rfl : c = true := hc2.2 (Or.inl h)
    have g1 : decide (a1 < b1) = true := decide_eq_true h
    clear hc2
    go_enter Try.func63, Try.ntmps63
    go_wp2_with fail
    go_ret
    exact ⟨rfl, BB.out⟩
  · subst h
    have g1 : decide (a1 < a1) = false := by simp
    have g2 : (a1 == a1) = true := by simp
    obtain ⟨v, hv⟩ : ∃ v, cmpS a2 b2 = v := ⟨_, rfl⟩
    rw [hv] at hc2
    have HV := Lib.hid hv
    have hcv : c = decide (v < 0) := by
      cases c
      · symm; rw [decide_eq_false_iff_not]; intro h; exact absurd (hc2.2 (Or.inr ⟨rfl, h⟩)) (by simp)
      · symm; rw [decide_eq_true_iff]; rcases hc2.1 rfl with h | h; omega; exact h.2
    subst hcv
    clear hc2 hv
    go_enter Try.func63, Try.ntmps63
    go_wp2_with fail
    refine (rcompare_lit a2 b2 v _ ha hb HV.out).mono ?_
    rintro e w' ⟨rfl, hb2⟩
    go_wp2_with fail
    go_ret
    exact ⟨rfl, BB.out.trans (hb2.mono BB.out.size)⟩
  · obtain rfl : c = false := by
      cases c
      · rfl
      · rcases hc2.1 rfl with h2 | h2 <;> omega
    have g1 : decide (a1 < b1) = false := by rw [decide_eq_false_iff_not]; omega
    have g2 : (a1 == b1) = false := by rw [beq_eq_false_iff_ne]; omega
    clear hc2
    go_enter Try.func63, Try.ntmps63
    go_wp2_with fail
    go_ret
    exact ⟨rfl, BB.out⟩
theorem rless_lit (a b : KV) (c : Bool) (hc : lessK a b = c) (w : World) (ha : a.2.size ≤ 1048576) (hb : b.2.size ≤ 1048576) :
    Calls Try.prog 63 #[keyV a, keyV b] w fun e w' => e = .returned (.bool c) ∧ Below w.heap.size w w' := by subst hc; exact rless_any a b w ha hb
theorem rlen_lit (s : Tx) (v : Int) (w : World) (hs : s.size ≤ 1048576) (hv : lenS s = v) :
    Calls Try.prog 62 #[.string s] w fun e w' => e = .returned (.int .i64 v) ∧ Below w.heap.size w w' := by subst hv; exact rlen_any s w hs
set_option maxHeartbeats 3200000 in
theorem rgoodK_any (a : Option Addr) (n cap : Nat) (ks : List KV) (w : World) (hh : HoldsK w a n ks) (hn : n ≤ 9223372036854775807) (hk : ∀ k ∈ ks, k.2.size ≤ 1048576) :
    Calls Try.prog 42 #[.slice a n cap] w fun e w' => e = .returned (.int .i64 (goodK ks)) ∧ Below w.heap.size w w' := by
  have hl := hh.len
  by_cases h5 : n ≤ 5
  case neg =>
    rw [goodK_long (by omega)]
    go_enter Try.func42, Try.ntmps42
    go_wp2_with fail
    go_ret
    exact ⟨rfl, Below.refl _ _⟩
  go_enter Try.func42, Try.ntmps42
  go_wp2_with fail
  go_loopw [3] (fun iv wr => ∃ j : Nat, j ≤ n ∧ iv = .int .i64 j ∧ Hid (∀ t ∈ ks.take j, mayK t) ∧ Hid (Below w.heap.size w wr)) (fun iv _ => n - (intOf iv).toNat)
  case atStart => exact ⟨0, by omega, rfl, Lib.hid (by simp), Lib.hid (Below.refl _ _)⟩
  case round =>
    obtain ⟨j, hj, rfl, hS, hB⟩ := hrel
    by_cases hlt : j < n
    · have hh1 := Lib.hid (hh.below hB.out)
      obtain ⟨b, o, rfl, hc⟩ := hh1.out.at (by omega)
      obtain ⟨e1, e2⟩ := hc j hlt
      have hmem := getD_memK ks j (by omega)
      have htk := take_succ_getD ks k0 j (by omega)
      obtain ⟨x, hx⟩ : ∃ x, ks.getD j k0 = x := ⟨_, rfl⟩
      rw [hx] at e1 e2 hmem htk
      have HX := Lib.hid (hk x hmem); have HM := Lib.hid hmem; have HT := Lib.hid htk
      have C1 := Lib.hid (fun (w3 : World) (hb : Below wr.heap.size wr w3) => show w3.cell? ⟨b, o + j * 2, none⟩ = some (.int .i64 x.1) from (hb.cell (p := ⟨b, o + j * 2, none⟩) (lt_of_cell e1)).trans e1)
      clear hx hmem htk hc
      obtain ⟨l, hll⟩ : ∃ l, lenS x.2 = l := ⟨_, rfl⟩
      have HL := Lib.hid hll
      have hmay : mayK x ↔ (1 ≤ x.1 ∧ x.1 ≤ 12 ∧ 0 ≤ l ∧ l ≤ 12) := by rw [← hll]; exact Iff.rfl
      obtain ⟨x1, hx1⟩ : ∃ z, x.1 = z := ⟨_, rfl⟩
      obtain ⟨x2, hx2⟩ : ∃ z, x.2 = z := ⟨_, rfl⟩
      rw [hx1] at e1 hmay; rw [hx2] at e2 HL HX
      simp only [hx1] at C1
      clear hll hx1 hx2
      have hcase : (x1 < 1 ∧ ¬ mayK x) ∨ (1 ≤ x1 ∧ 12 < x1 ∧ ¬ mayK x) ∨ (1 ≤ x1 ∧ x1 ≤ 12 ∧ l < 0 ∧ ¬ mayK x) ∨ (1 ≤ x1 ∧ x1 ≤ 12 ∧ 0 ≤ l ∧ 12 < l ∧ ¬ mayK x) ∨ (1 ≤ x1 ∧ x1 ≤ 12 ∧ 0 ≤ l ∧ l ≤ 12 ∧ mayK x) := by
        rw [hmay]; omega
      clear hmay
      have bs := hB.out.size
      rcases hcase with ⟨h, hw⟩ | ⟨h, h2, hw⟩ | ⟨h, h2, h3, hw⟩ | ⟨h, h2, h3, h4, hw⟩ | ⟨h, h2, h3, h4, hw⟩
      rotate_left 4
      · have HW := Lib.hid hw
        have x1' : decide (x1 < 1) = false := by rw [decide_eq_false_iff_not]; omega
        have x2' : decide (x1 > 12) = false := by rw [decide_eq_false_iff_not]; omega
        have x3' : decide (l < 0) = false := by rw [decide_eq_false_iff_not]; omega
        have x4' : decide (l > 12) = false := by rw [decide_eq_false_iff_not]; omega
        clear hw
        go_wp2_with fail
        refine (rlen_lit x2 l wr HX.out HL.out).mono ?_
        rintro e w2 ⟨rfl, hb2⟩
        have e3 := C1.out w2 hb2
        go_wp2_with fail
        go_roundw
        case rel => exact ⟨j + 1, by omega, by go_num, Lib.hid (by rw [HT.out]; intro z hz; rcases List.mem_append.1 hz with hz | hz; exact hS.out z hz; simp at hz; rw [hz]; exact HW.out), Lib.hid (hB.out.trans (hb2.mono bs))⟩
        case measure => simp [intOf]; omega
      all_goals
        have HG := Lib.hid (goodK_bad (by omega) x HM.out hw)
        clear hw
        first
          | have x1' : decide (x1 < 1) = true := by rw [decide_eq_true_iff]; omega
          | have x1' : decide (x1 < 1) = false := by rw [decide_eq_false_iff_not]; omega
        first
          | have x2' : decide (x1 > 12) = true := by rw [decide_eq_true_iff]; omega
          | have x2' : decide (x1 > 12) = false := by rw [decide_eq_false_iff_not]; omega
        first
          | have x3' : decide (l < 0) = true := by rw [decide_eq_true_iff]; omega
          | have x3' : decide (l < 0) = false := by rw [decide_eq_false_iff_not]; omega
          | skip
        first
          | have x4' : decide (l > 12) = true := by rw [decide_eq_true_iff]; omega
          | have x4' : decide (l > 12) = false := by rw [decide_eq_false_iff_not]; omega
          | skip
        go_wp2_with fail
        refine (rlen_lit x2 l wr HX.out HL.out).mono ?_
        rintro e w2 ⟨rfl, hb2⟩
        have e3 := C1.out w2 hb2
        go_wp2_with fail
        go_ret
        exact ⟨ret_int HG.out.symm, hB.out.trans (hb2.mono bs)⟩
    · have hjn : ks.take j = ks := List.take_of_length_le (by omega)
      have hwd := hS.out
      rw [hjn] at hwd
      have HW := Lib.hid hwd
      have hB1 := hB
      clear hjn hwd hS hB
      go_wp2_with fail
      go_loopw [5] (fun iv wr2 => ∃ i : Nat, 1 ≤ i ∧ i ≤ n + 1 ∧ iv = .int .i64 i ∧ Hid (∀ k, k + 1 < i → k + 1 < n → ordK (ks.getD k k0) (ks.getD (k + 1) k0) < 0) ∧ Hid (Below w.heap.size w wr2)) (fun iv _ => n + 1 - (intOf iv).toNat)
      case atStart => exact ⟨1, by omega, by omega, rfl, Lib.hid (fun k h1 => by omega), hB1⟩
      case round =>
        obtain ⟨i, hi1, hi2, rfl, hS, hB⟩ := hrel
        by_cases hlt2 : i < n
        · obtain ⟨b, o, rfl, hc⟩ := (hh.below hB.out).at (by omega)
          obtain ⟨q, hq⟩ : ∃ q, q = i - 1 := ⟨_, rfl⟩
          have hqi : q + 1 = i := by omega
          obtain ⟨e3, e4⟩ := hc i hlt2
          obtain ⟨e1, e2⟩ := hc q (by omega)
          have s1 := hk _ (getD_memK ks q (by omega))
          have s2 := hk _ (getD_memK ks i (by omega))
          obtain ⟨x, hx⟩ : ∃ x, ks.getD q k0 = x := ⟨_, rfl⟩
          obtain ⟨y, hy⟩ : ∃ y, ks.getD i k0 = y := ⟨_, rfl⟩
          rw [hx] at e1 e2 s1; rw [hy] at e3 e4 s2
          have HX := Lib.hid hx; have HY := Lib.hid hy; have HQ := Lib.hid hqi
          have T := Lib.hid (show Two4 wr b (o + q * 2) (o + i * 2) x y wr from ⟨Below.refl _ _, e1, e2, e3, e4⟩)
          have hr : IntKind.i64.wrap ((i : Int) - 1) = (q : Int) := by rw [IntWalk.i64_in _ (by omega)]; omega
          have g1 : (0 : Int) ≤ (q : Int) := by omega
          have g2 : (q : Int) < (n : Int) := by omega
          have g3 : (0 : Int) ≤ (i : Int) := by omega
          have g4 : (i : Int) < (n : Int) := by omega
          have bs := hB.out.size
          clear hx hy hc hq hqi e1 e2 e3 e4
          by_cases hvn : ordK x y < 0
          · have C := Lib.hid (fun w => rless_lit x y true (decide_eq_true hvn) w s1 s2)
            unfold keyV at C
            have HV := Lib.hid hvn
            clear hvn
            go_upto_region 12 with fail
            go_region_held3 (fun w' => Below wr.heap.size wr w' ∧ w'.cell? ⟨b, o + q * 2, none⟩ = some (.int .i64 x.1) ∧ w'.cell? ⟨b, o + q * 2 + 1, none⟩ = some (.string x.2) ∧ w'.cell? ⟨b, o + i * 2, none⟩ = some (.int .i64 y.1) ∧ w'.cell? ⟨b, o + i * 2 + 1, none⟩ = some (.string y.2))
              (first | assumption | exact two4_carry T.out (below_drewN wr _) | exact two4_carry T.out (Below.refl _ _).drew | exact two4_carry (by assumption) (by assumption))
              (first | (go_at_call 63; refine (C.out _).mono ?_; rintro e w' ⟨rfl, hb⟩))
            rename_i T5
            obtain ⟨hb5, -⟩ := T5
            go_wp2_with fail
            go_roundw
            case rel =>
              refine ⟨i + 1, by omega, by omega, by go_num, Lib.hid (fun k h1 h2 => ?_), Lib.hid (hB.out.trans (hb5.mono bs))⟩
              by_cases hk2 : k = q
              · subst hk2; rw [HX.out, HQ.out, HY.out]; exact HV.out
              · exact hS.out k (by have := HQ.out; omega) h2
            case measure => simp [intOf]; omega
          · have C := Lib.hid (fun w => rless_lit x y false (decide_eq_false hvn) w s1 s2)
            unfold keyV at C
            have hg := goodK_sort (by omega) HW.out (fun hs => hvn (by have := (adjK_iff ks).1 hs q (by have := HQ.out; omega); rw [HX.out, HQ.out, HY.out] at this; exact this))
            have HG := Lib.hid hg
            clear hg hvn
            go_upto_region 12 with fail
            go_region_held3 (fun w' => Below wr.heap.size wr w' ∧ w'.cell? ⟨b, o + q * 2, none⟩ = some (.int .i64 x.1) ∧ w'.cell? ⟨b, o + q * 2 + 1, none⟩ = some (.string x.2) ∧ w'.cell? ⟨b, o + i * 2, none⟩ = some (.int .i64 y.1) ∧ w'.cell? ⟨b, o + i * 2 + 1, none⟩ = some (.string y.2))
              (first | assumption | exact two4_carry T.out (below_drewN wr _) | exact two4_carry T.out (Below.refl _ _).drew | exact two4_carry (by assumption) (by assumption))
              (first | (go_at_call 63; refine (C.out _).mono ?_; rintro e w' ⟨rfl, hb⟩))
            rename_i T5
            obtain ⟨hb5, -⟩ := T5
            go_wp2_with fail
            go_ret
            exact ⟨ret_int HG.out.symm, hB.out.trans (hb5.mono bs)⟩
        · have hg := goodK_of (l := ks) (by omega) HW.out ((adjK_iff ks).2 fun k hk => hS.out k (by omega) (by omega))
          have HG := Lib.hid hg
          clear hg
          go_wp2_with fail
          go_ret
          exact ⟨ret_int HG.out.symm, hB.out⟩
end Go.Proofs.Ytbimbgcejeeinaa
/- the document's place: May, Shards -/
namespace Go.Proofs.Ytbimbgcejeeinaa
open Go.RowKit
set_option linter.unusedVariables false
set_option maxRecDepth 20000
/-- no text too long -/
def Cfg.small (c : Cfg) : Prop := (∀ t ∈ c.ws, t.size ≤ 1048576) ∧ ∀ k ∈ c.ks, k.2.size ≤ 1048576
theorem rin_lit (n lo hi : Int) (c : Bool) (w : World) (h : decide (lo ≤ n ∧ n ≤ hi) = c) :
    Calls Try.prog 43 #[.int .i64 n, .int .i64 lo, .int .i64 hi] w fun e w' => e = .returned (.bool c) ∧ w = w' := by
  subst h
  go_enter Try.func43, Try.ntmps43
  go_wp2
  all_goals (go_ret; exact ⟨ret_bool (by simp; try omega), rfl⟩)
set_option maxHeartbeats 6400000 in
set_option maxRecDepth 100000 in
theorem rmay_cfg (c : Cfg) (z : Bool) (w : World) (h : CfgOk w c) (hs : c.small) (hz : c.may = z) :
    Calls Try.prog 15 #[.agg #[.slice c.wa c.wn c.wc, .slice c.ka c.kn c.kc, .int .i64 c.W, .int .i64 c.C, .int .i64 c.S, .int .i64 c.B, .int .i64 c.L, .int .i64 c.H, .int .i64 c.F, .int .i64 c.P, .int .i64 c.J, .int .i64 c.N]] w fun e w' => e = .returned (.bool z) ∧ Below w.heap.size w w' := by
  obtain ⟨v1, hv1⟩ : ∃ v, goodV c.ws = v := ⟨_, rfl⟩
  obtain ⟨v2, hv2⟩ : ∃ v, goodK c.ks = v := ⟨_, rfl⟩
  unfold Cfg.may at hz
  rw [hv1, hv2] at hz
  obtain ⟨z0, h0⟩ : ∃ z, decide (v1 = 0) = z := ⟨_, rfl⟩
  obtain ⟨z1, h1⟩ : ∃ z, decide (v2 = 0) = z := ⟨_, rfl⟩
  obtain ⟨z2, h2⟩ : ∃ z, decide (1 ≤ c.W ∧ c.W ≤ 5) = z := ⟨_, rfl⟩
  obtain ⟨z3, h3⟩ : ∃ z, decide (1 ≤ c.C ∧ c.C ≤ min 3 c.W) = z := ⟨_, rfl⟩
  obtain ⟨z4, h4⟩ : ∃ z, decide (1 ≤ c.S ∧ c.S ≤ 4) = z := ⟨_, rfl⟩
  obtain ⟨z5, h5⟩ : ∃ z, decide (1 ≤ c.B ∧ c.B ≤ 5) = z := ⟨_, rfl⟩
  obtain ⟨z6, h6⟩ : ∃ z, decide (1 ≤ c.L ∧ c.L ≤ 1000) = z := ⟨_, rfl⟩
  obtain ⟨z7, h7⟩ : ∃ z, decide (1 ≤ c.H ∧ c.H ≤ 1000) = z := ⟨_, rfl⟩
  obtain ⟨z8, h8⟩ : ∃ z, decide (1 ≤ c.F ∧ c.F ≤ 10) = z := ⟨_, rfl⟩
  obtain ⟨z9, h9⟩ : ∃ z, decide (c.F ≤ c.P ∧ c.P ≤ 50) = z := ⟨_, rfl⟩
  obtain ⟨z10, h10⟩ : ∃ z, decide (0 ≤ c.J ∧ c.J ≤ 10) = z := ⟨_, rfl⟩
  obtain ⟨z11, h11⟩ : ∃ z, decide (8 ≤ c.N ∧ c.N ≤ 64) = z := ⟨_, rfl⟩
  rw [h0, h1, h2, h3, h4, h5, h6, h7, h8, h9, h10, h11] at hz
  have HZ := Lib.hid hz
  have V1 := Lib.hid hv1; have V2 := Lib.hid hv2
  have HS := Lib.hid hs
  have H2 := Lib.hid h2
  have H3 := Lib.hid h3
  have H4 := Lib.hid h4
  have H5 := Lib.hid h5
  have H6 := Lib.hid h6
  have H7 := Lib.hid h7
  have H8 := Lib.hid h8
  have H9 := Lib.hid h9
  have H10 := Lib.hid h10
  have H11 := Lib.hid h11
  have e0 : (v1 != 0) = !z0 := by rw [← h0]; simp [bne, BEq.beq]
  have e1 : (v2 != 0) = !z1 := by rw [← h1]; simp [bne, BEq.beq]
  have OK := Lib.hid (h.below (below_one w (.cells #[.slice c.wa c.wn c.wc, .slice c.ka c.kn c.kc, .int .i64 c.W, .int .i64 c.C, .int .i64 c.S, .int .i64 c.B, .int .i64 c.L, .int .i64 c.H, .int .i64 c.F, .int .i64 c.P, .int .i64 c.J, .int .i64 c.N] 25)))
  have BX := Lib.hid (below_one w (.cells #[.slice c.wa c.wn c.wc, .slice c.ka c.kn c.kc, .int .i64 c.W, .int .i64 c.C, .int .i64 c.S, .int .i64 c.B, .int .i64 c.L, .int .i64 c.H, .int .i64 c.F, .int .i64 c.P, .int .i64 c.J, .int .i64 c.N] 25))
  have IN := Lib.hid (cfgIn_new w c w.heap.size 25 (0, 0) rfl)
  clear hz hv1 hv2 h0 h1 h2 h3 h4 h5 h6 h7 h8 h9 h10 h11 h hs
  go_enter Try.func15, Try.ntmps15
  go_wp2_with fail
  refine (rgood_any c.wa c.wn c.wc c.ws _ OK.out.1 OK.out.2.2.2.1 HS.out.1).mono ?_
  rw [V1.out]
  rintro e w2 ⟨rfl, hb2⟩
  have I2 := Lib.hid (IN.out.below hb2)
  have OK2 := Lib.hid (OK.out.below hb2)
  have B2 := Lib.hid (BX.out.trans (hb2.mono BX.out.size))
  clear hb2
  have hI := I2.out
  unfold CfgIn at hI
  obtain ⟨i0, i1, i2, i3, i4, i5, i6, i7, i8, i9, i10, i11⟩ := hI
  cases z0
  · simp only [Bool.not_false] at e0
    go_wp2_with fail
    go_ret
    exact ⟨by rw [← HZ.out]; rfl, B2.out⟩
  simp only [Bool.not_true] at e0
  go_wp2_with fail
  refine (rgoodK_any c.ka c.kn c.kc c.ks _ OK2.out.2.2.2.2.2.1 OK2.out.2.2.2.2.2.2.1 HS.out.2).mono ?_
  rw [V2.out]
  rintro e w3 ⟨rfl, hb3⟩
  have I3 := Lib.hid (I2.out.below hb3)
  have BZ := Lib.hid (B2.out.trans (hb3.mono B2.out.size))
  clear hb3 i0 i1 i2 i3 i4 i5 i6 i7 i8 i9 i10 i11
  have hI := I3.out
  unfold CfgIn at hI
  obtain ⟨i0, i1, i2, i3, i4, i5, i6, i7, i8, i9, i10, i11⟩ := hI
  cases z1
  · simp only [Bool.not_false] at e1
    go_wp2_with fail
    go_ret
    exact ⟨by rw [← HZ.out]; rfl, BZ.out⟩
  simp only [Bool.not_true] at e1
  go_wp2_with fail
  refine (rin_lit c.W 1 5 z2 _ H2.out).mono ?_
  rintro e w' ⟨rfl, rfl⟩
  cases z2
  · go_wp2_with fail
    go_ret
    exact ⟨by rw [← HZ.out]; rfl, BZ.out⟩
  go_wp2_with fail
  refine (rin_lit c.C 1 (min 3 c.W) z3 _ H3.out).mono ?_
  rintro e w' ⟨rfl, rfl⟩
  cases z3
  · go_wp2_with fail
    go_ret
    exact ⟨by rw [← HZ.out]; rfl, BZ.out⟩
  go_wp2_with fail
  refine (rin_lit c.S 1 4 z4 _ H4.out).mono ?_
  rintro e w' ⟨rfl, rfl⟩
  cases z4
  · go_wp2_with fail
    go_ret
    exact ⟨by rw [← HZ.out]; rfl, BZ.out⟩
  go_wp2_with fail
  refine (rin_lit c.B 1 5 z5 _ H5.out).mono ?_
  rintro e w' ⟨rfl, rfl⟩
  cases z5
  · go_wp2_with fail
    go_ret
    exact ⟨by rw [← HZ.out]; rfl, BZ.out⟩
  go_wp2_with fail
  refine (rin_lit c.L 1 1000 z6 _ H6.out).mono ?_
  rintro e w' ⟨rfl, rfl⟩
  cases z6
  · go_wp2_with fail
    go_ret
    exact ⟨by rw [← HZ.out]; rfl, BZ.out⟩
  go_wp2_with fail
  refine (rin_lit c.H 1 1000 z7 _ H7.out).mono ?_
  rintro e w' ⟨rfl, rfl⟩
  cases z7
  · go_wp2_with fail
    go_ret
    exact ⟨by rw [← HZ.out]; rfl, BZ.out⟩
  go_wp2_with fail
  refine (rin_lit c.F 1 10 z8 _ H8.out).mono ?_
  rintro e w' ⟨rfl, rfl⟩
  cases z8
  · go_wp2_with fail
    go_ret
    exact ⟨by rw [← HZ.out]; rfl, BZ.out⟩
  go_wp2_with fail
  refine (rin_lit c.P c.F 50 z9 _ H9.out).mono ?_
  rintro e w' ⟨rfl, rfl⟩
  cases z9
  · go_wp2_with fail
    go_ret
    exact ⟨by rw [← HZ.out]; rfl, BZ.out⟩
  go_wp2_with fail
  refine (rin_lit c.J 0 10 z10 _ H10.out).mono ?_
  rintro e w' ⟨rfl, rfl⟩
  cases z10
  · go_wp2_with fail
    go_ret
    exact ⟨by rw [← HZ.out]; rfl, BZ.out⟩
  go_wp2_with fail
  refine (rin_lit c.N 8 64 z11 _ H11.out).mono ?_
  rintro e w' ⟨rfl, rfl⟩
  cases z11
  · go_wp2_with fail
    go_ret
    exact ⟨by rw [← HZ.out]; rfl, BZ.out⟩
  go_wp2_with fail
  go_ret
  exact ⟨by rw [← HZ.out]; rfl, BZ.out⟩
/-- how many shards -/
def Cfg.shards (c : Cfg) : Nat := if c.may then c.kn + 1 else 0
set_option maxHeartbeats 1600000 in
theorem rshards_any (c : Cfg) (n : Nat) (w : World) (h : CfgOk w c) (hs : c.small) (hn : c.shards = n) :
    Calls Try.prog 17 #[.agg #[.slice c.wa c.wn c.wc, .slice c.ka c.kn c.kc, .int .i64 c.W, .int .i64 c.C, .int .i64 c.S, .int .i64 c.B, .int .i64 c.L, .int .i64 c.H, .int .i64 c.F, .int .i64 c.P, .int .i64 c.J, .int .i64 c.N]] w fun e w' => e = .returned (.int .i64 (n : Int)) ∧ Below w.heap.size w w' := by
  have BX := Lib.hid (below_one w (.cells #[.slice c.wa c.wn c.wc, .slice c.ka c.kn c.kc, .int .i64 c.W, .int .i64 c.C, .int .i64 c.S, .int .i64 c.B, .int .i64 c.L, .int .i64 c.H, .int .i64 c.F, .int .i64 c.P, .int .i64 c.J, .int .i64 c.N] 25))
  have IN := Lib.hid (cfgIn_new w c w.heap.size 25 (0, 0) rfl)
  obtain ⟨z, hz⟩ : ∃ z, c.may = z := ⟨_, rfl⟩
  have CM := Lib.hid (rmay_cfg c z _ (h.below BX.out) hs hz)
  unfold Cfg.shards at hn
  rw [hz] at hn
  cases z
  · obtain rfl : 0 = n := hn
    clear h hs hz
    go_enter Try.func17, Try.ntmps17
    go_wp2_with fail
    refine CM.out.mono ?_
    rintro e w2 ⟨rfl, hb2⟩
    have B2 := Lib.hid (BX.out.trans (hb2.mono BX.out.size))
    clear hb2 CM
    go_wp2_with fail
    go_ret
    exact ⟨rfl, B2.out⟩
  · obtain rfl : c.kn + 1 = n := hn
    have hk := may_kn hz h
    have hw1 : IntKind.i64.wrap ((c.kn : Int) + 1) = ((c.kn + 1 : Nat) : Int) := by rw [IntWalk.i64_in _ (by omega)]; omega
    clear h hs hz hk
    go_enter Try.func17, Try.ntmps17
    go_wp2_with fail
    refine CM.out.mono ?_
    rintro e w2 ⟨rfl, hb2⟩
    have B2 := Lib.hid (BX.out.trans (hb2.mono BX.out.size))
    have hI := IN.out.below hb2
    unfold CfgIn at hI
    obtain ⟨i0, i1, -⟩ := hI
    clear hb2 CM
    go_wp2_with fail
    go_ret
    exact ⟨rfl, B2.out⟩
end Go.Proofs.Ytbimbgcejeeinaa
/- law: what a configuration that is not great is -/
namespace Go.Proofs.Ytbimbgcejeeinaa
open Go.RowKit
set_option linter.unusedVariables false
set_option maxRecDepth 20000
theorem greatB_no {ts : List Tx} (h : greatB ts = false) : ts.length ≤ 80 ∧ ∀ t ∈ ts, t.size ≤ 100 := by
  have h1 := of_decide_eq_false h
  exact ⟨by false_or_by_contra; exact h1 (Or.inl (by omega)), fun t ht => by false_or_by_contra; exact h1 (Or.inr ⟨t, ht, by omega⟩)⟩
def GreatCS (c : Cfg) (w : World) (e : Ending) (w' : World) : Prop := ∃ z, e = .returned (.bool z) ∧ Below w.heap.size w w' ∧ (z = false → (c.ws.length ≤ 80 ∧ ∀ t ∈ c.ws, t.size ≤ 100) ∧ c.kn ≤ 10 ∧ ∀ k ∈ c.ks, k.2.size ≤ 100)
set_option maxHeartbeats 1600000 in
theorem greatC_strong (c : Cfg) (w : World) (h : CfgOk w c) :
    Calls Try.prog 7 #[.agg #[.slice c.wa c.wn c.wc, .slice c.ka c.kn c.kc, .int .i64 c.W, .int .i64 c.C, .int .i64 c.S, .int .i64 c.B, .int .i64 c.L, .int .i64 c.H, .int .i64 c.F, .int .i64 c.P, .int .i64 c.J, .int .i64 c.N]] w (GreatCS c w) := by
  have BX := Lib.hid (below_one w (.cells #[.slice c.wa c.wn c.wc, .slice c.ka c.kn c.kc, .int .i64 c.W, .int .i64 c.C, .int .i64 c.S, .int .i64 c.B, .int .i64 c.L, .int .i64 c.H, .int .i64 c.F, .int .i64 c.P, .int .i64 c.J, .int .i64 c.N] 25))
  have IN := Lib.hid (cfgIn_new w c w.heap.size 25 (0, 0) rfl)
  have OK := Lib.hid (h.below BX.out)
  have HK0 := Lib.hid h.2.2.2.2.2.1.len
  clear h
  go_enter Try.func7, Try.ntmps7
  go_upto_region 2 with fail
  have BE := Lib.hid BX.out
  generalize w.alloc (.cells #[.slice c.wa c.wn c.wc, .slice c.ka c.kn c.kc, .int .i64 c.W, .int .i64 c.C, .int .i64 c.S, .int .i64 c.B, .int .i64 c.L, .int .i64 c.H, .int .i64 c.F, .int .i64 c.P, .int .i64 c.J, .int .i64 c.N] 25) = w1 at *
  obtain ⟨p, hp⟩ : ∃ p, w.heap.size = p := ⟨_, rfl⟩
  rw [hp] at IN
  rw [hp]
  obtain ⟨i0, i1, -⟩ := IN.out
  clear hp
  have hl := OK.out.2.2.2.2.2.1.len
  by_cases h10 : c.kn ≤ 10
  · have d1 : decide (c.kn ≤ 10) = true := decide_eq_true h10
    have d2 : decide ((c.kn : Int) > 10) = false := decide_eq_false (by omega)
    have d3 : decide (10 < c.kn) = false := decide_eq_false (by omega)
    go_loop [3] (fun iv => ∃ i : Nat, i ≤ c.kn ∧ iv = .int .i64 i ∧ Hid (∀ k ∈ c.ks.take i, k.2.size ≤ 100)) (fun iv => c.kn - (intOf iv).toNat)
    case atStart => exact ⟨0, by omega, rfl, Lib.hid (by simp)⟩
    case round =>
      obtain ⟨i, hi, rfl, hS⟩ := hrel
      by_cases hlt : i < c.kn
      · obtain ⟨kb, ko, hka, hc⟩ := OK.out.2.2.2.2.2.1.2 (by omega)
        have e2 := (hc i hlt).2
        obtain ⟨x, hx⟩ : ∃ x, (c.ks.getD i k0).2 = x := ⟨_, rfl⟩
        rw [hx] at e2
        rw [hka] at i1
        have HX := Lib.hid hx
        clear hc hx
        by_cases hbig : 100 < x.size
        · have c2 : decide (100 < x.size) = true := decide_eq_true hbig
          have c3 : decide ((x.size : Int) > 100) = true := decide_eq_true (by omega)
          go_wp2_with fail
          go_ret
          exact ⟨true, rfl, BE.out, fun h => by cases h⟩
        · have c2 : decide (100 < x.size) = false := decide_eq_false hbig
          have c3 : decide ((x.size : Int) > 100) = false := decide_eq_false (by omega)
          go_wp2_with fail
          go_round
          case rel => exact ⟨i + 1, by omega, by go_num, Lib.hid (by
            rw [take_succ_getD c.ks k0 i (by have := HK0.out; omega)]
            intro k hk
            rcases List.mem_append.1 hk with hk | hk
            · exact hS.out k hk
            · rw [List.mem_singleton] at hk; rw [hk, HX.out]; omega)⟩
          case measure => simp [intOf]; omega
      · obtain rfl : i = c.kn := by omega
        go_wp2_with fail
        refine (great_any c.wa c.wn c.wc c.ws _ OK.out.1 OK.out.2.2.2.1 OK.out.2.2.2.2.1).mono ?_
        obtain ⟨z, hz⟩ : ∃ z, greatB c.ws = z := ⟨_, rfl⟩
        rw [hz]
        have HZ := Lib.hid hz
        clear hz
        rintro e w2 ⟨rfl, hb2⟩
        have j1 := (hb2.cell (p := ⟨p, 1, none⟩) (lt_of_cell i1)).trans i1
        have B2 := Lib.hid (BE.out.trans (hb2.mono BE.out.size))
        clear hb2
        cases z
        · go_wp2_with fail
          go_ret
          exact ⟨false, rfl, B2.out, fun _ => ⟨greatB_no HZ.out, h10, by have h5 := hS.out; rw [List.take_of_length_le (by have := HK0.out; omega)] at h5; exact h5⟩⟩
        · go_wp2_with fail
          go_ret
          exact ⟨true, rfl, B2.out, fun h => by cases h⟩
  · have d1 : decide (c.kn ≤ 10) = false := decide_eq_false h10
    have d2 : decide ((c.kn : Int) > 10) = true := decide_eq_true (by omega)
    have d3 : decide (10 < c.kn) = true := decide_eq_true (by omega)
    have d4 : decide (0 < c.kn) = true := decide_eq_true (by omega)
    go_loop [3] (fun iv => iv = .int .i64 ((0 : Nat) : Int)) (fun _ => 0)
    case atStart => exact rfl
    case round =>
      obtain rfl := hrel
      go_wp2_with fail
      refine (great_any c.wa c.wn c.wc c.ws _ OK.out.1 OK.out.2.2.2.1 OK.out.2.2.2.2.1).mono ?_
      generalize greatB c.ws = z
      rintro e w2 ⟨rfl, hb2⟩
      have j1 := (hb2.cell (p := ⟨p, 1, none⟩) (lt_of_cell i1)).trans i1
      have B2 := Lib.hid (BE.out.trans (hb2.mono BE.out.size))
      clear hb2
      cases z
      · go_wp2_with fail
        go_ret
        exact ⟨true, rfl, B2.out, fun h => by cases h⟩
      · go_wp2_with fail
        go_ret
        exact ⟨true, rfl, B2.out, fun h => by cases h⟩
end Go.Proofs.Ytbimbgcejeeinaa
/- the document's place: Copies, Keeps -/
namespace Go.Proofs.Ytbimbgcejeeinaa
open Go.RowKit
set_option linter.unusedVariables false
set_option maxRecDepth 20000
set_option maxHeartbeats 6400000 in
theorem rcopies_in (c : Cfg) (s : Nat) (W C : Nat) (w : World) (h : CfgOk w c) (hsm : c.small) (hm : c.may = true) (hs : s < c.kn + 1) (hW : c.W = (W : Int)) (hC : c.C = (C : Int)) :
    Calls Try.prog 19 #[.agg #[.slice c.wa c.wn c.wc, .slice c.ka c.kn c.kc, .int .i64 c.W, .int .i64 c.C, .int .i64 c.S, .int .i64 c.B, .int .i64 c.L, .int .i64 c.H, .int .i64 c.F, .int .i64 c.P, .int .i64 c.J, .int .i64 c.N], .int .i64 (s : Int)] w (RetZ w (Pl.cop W C s)) := by
  obtain ⟨i0, hi, hz0, hz1, hz2⟩ := info_parts num_info
  have BX := Lib.hid (below_one w (.cells #[.slice c.wa c.wn c.wc, .slice c.ka c.kn c.kc, .int .i64 c.W, .int .i64 c.C, .int .i64 c.S, .int .i64 c.B, .int .i64 c.L, .int .i64 c.H, .int .i64 c.F, .int .i64 c.P, .int .i64 c.J, .int .i64 c.N] 25))
  have IN := Lib.hid (cfgIn_new w c w.heap.size 25 (0, 0) rfl)
  have OK := Lib.hid h
  have hk := may_kn hm h
  obtain ⟨n, hn⟩ : ∃ n, c.kn + 1 = n := ⟨_, rfl⟩
  have SH := Lib.hid (fun w' (hb : Below w.heap.size w w') => rshards_any c n w' (OK.out.below hb) hsm (by unfold Cfg.shards; rw [hm, if_pos rfl]; exact hn))
  rw [hn] at hs
  obtain ⟨-, -, hw, hc, -⟩ := may_parts hm
  rw [hW] at hw
  rw [hC, hW] at hc
  have H5 := Lib.hid (show W ≤ 5 ∧ C ≤ 3 from ⟨by omega, by omega⟩)
  have hW0 : ((W : Int) == 0) = false := by simp; omega
  have hW1 : 1 ≤ W := by omega
  have hC3 : C ≤ 3 := by omega
  have hs6 : s ≤ 5 := by omega
  have HW := Lib.hid hW; have HC := Lib.hid hC
  have d2 : decide ((s : Int) ≥ 0) = true := decide_eq_true (by omega)
  have d3 : decide ((s : Int) < (n : Int)) = true := decide_eq_true (by omega)
  clear h hm hw hc hW hC hsm hn hk
  go_enter Try.func19, Try.ntmps19
  go_wp2_with fail
  go_loopw [5, 6] (fun ov iv wr => ∃ (j : Nat) (av : Option Addr) (cv : Nat), j ≤ C ∧ iv = .int .i64 j ∧ ov = .slice av j cv ∧ Hid (wr.ownsRow (w.heap.size + 1) 3 1 (.slice av j cv) j (numsV (Pl.cop W j s))) ∧ Hid (Below w.heap.size w wr ∧ CfgIn wr w.heap.size c)) (fun _ iv _ => C - (intOf iv).toNat)
  case atStart => exact ⟨0, none, 0, by omega, rfl, rfl, Lib.hid (World.ownsRow_nil _ _ _ _), Lib.hid ⟨BX.out, IN.out⟩⟩
  case round =>
    obtain ⟨j, av, cv, hj, rfl, rfl, hO, hB⟩ := hrel
    have hI := hB.out.2
    unfold CfgIn at hI
    obtain ⟨i0', i1, i2, i3, i4, i5, i6, i7, i8, i9, i10, i11⟩ := hI
    have j3 := i3
    rw [HC.out] at j3
    by_cases hlt : j < C
    · have d1 : decide ((j : Int) < (C : Int)) = true := decide_eq_true (by omega)
      have d4 : decide ((j : Int) < c.C) = true := by rw [HC.out]; exact d1
      obtain ⟨z, hz⟩ : ∃ z, (s + j) % W = z := ⟨_, rfl⟩
      have hzl : z < W := by rw [← hz]; exact Nat.mod_lt _ (by omega)
      have HZ := Lib.hid (show Pl.cop W (j + 1) s = Pl.cop W j s ++ [1 + (z : Int)] from by rw [Pl.cop_snoc, hz]; simp)
      have r1 : IntKind.i64.wrap ((s : Int) + (j : Int)) = (s : Int) + (j : Int) := by rw [IntWalk.i64_in _ (by omega)]
      have r2 : ((s : Int) + (j : Int)) % (W : Int) = (z : Int) := by rw [← hz]; simp
      have r3 : IntKind.i64.wrap (1 + (z : Int)) = 1 + (z : Int) := by rw [IntWalk.i64_in _ (by have := H5.out; omega)]
      have CS := Lib.hid (SH.out wr hB.out.1)
      clear hz j3
      go_wp2_with fail
      refine CS.out.mono ?_
      rintro e w3 ⟨rfl, hb3⟩
      have O2 := Lib.hid (owns_below hO.out hb3)
      have B2 := Lib.hid (show Below w.heap.size w w3 ∧ CfgIn w3 w.heap.size c from ⟨hB.out.1.trans (hb3.mono hB.out.1.size), hB.out.2.below hb3⟩)
      have IH := Lib.hid B2.out.2
      clear hb3 CS hO hB i0' i1 i2 i3 i4 i5 i6 i7 i8 i9 i10 i11
      have hI := B2.out.2
      unfold CfgIn at hI
      obtain ⟨-, -, k2, -⟩ := hI
      rw [HW.out] at k2
      go_wp2_with (at_builtin; refine wpList_append_any rfl (.tmp 23) (.tmp 31) 28 rfl (w.heap.size + 1) 3 i0 _ 1 8 Try.underlying28 hi hz0 hz1 hz2 rfl (by decide) _ j _ rfl (O2.out.alloc _) _ 1 1 [.int .i64 (1 + (z : Int))] rfl (some_none _) rfl (one_new _ _ _ _) (by simp [Value.oneCell']) (by unfold maxLen; omega) (by omega) (by have := lt_of_cell IH.out.1; simp; omega) ?_; intro a3 c3 w4 hown3 hb3 hnil3)
      have O3 := Lib.hid (show w4.ownsRow (w.heap.size + 1) 3 1 (.slice a3 (j + 1) c3) (j + 1) (numsV (Pl.cop W (j + 1) s)) from by rw [HZ.out]; unfold numsV at hown3 ⊢; rw [List.map_append]; exact hown3)
      have B3 := Lib.hid (show Below w.heap.size w w4 ∧ CfgIn w4 w.heap.size c from by
        have b1 : Below (w.heap.size + 1) w3 w4 := ((Below.refl (w.heap.size + 1) w3).alloc (by have := lt_of_cell IH.out.1; omega) _).trans hb3
        exact ⟨B2.out.1.trans (b1.mono (by omega)), IH.out.of fun i => b1.cell (p := ⟨w.heap.size, i, none⟩) (by show w.heap.size < w.heap.size + 1; omega)⟩)
      clear hown3 hb3 hnil3 k2 IH
      go_roundw
      case rel => exact ⟨j + 1, a3, c3, by omega, by go_num, rfl, O3, B3⟩
      case measure => simp [intOf] <;> omega
    · obtain rfl : j = C := by omega
      have d1 : decide ((j : Int) < (j : Int)) = false := decide_eq_false (by omega)
      have d4 : decide ((j : Int) < c.C) = false := by rw [HC.out]; exact d1
      clear j3
      go_wp2_with fail
      go_ret
      refine ⟨av, cv, by rw [Pl.cop_len]; rfl, ?_, hB.out.1⟩
      rw [Pl.cop_len]
      have := hO.out
      exact ⟨this.1, this.2.imp id (fun ⟨g, cap, cur, hv, hge, r⟩ => ⟨g, cap, cur, hv, by omega, r⟩)⟩
set_option maxHeartbeats 3200000 in
theorem rcopies_out (c : Cfg) (x : Int) (w : World) (h : CfgOk w c) (hsm : c.small) (hs : ¬ (0 ≤ x ∧ x < (c.shards : Int))) :
    Calls Try.prog 19 #[.agg #[.slice c.wa c.wn c.wc, .slice c.ka c.kn c.kc, .int .i64 c.W, .int .i64 c.C, .int .i64 c.S, .int .i64 c.B, .int .i64 c.L, .int .i64 c.H, .int .i64 c.F, .int .i64 c.P, .int .i64 c.J, .int .i64 c.N], .int .i64 x] w (RetZ w []) := by
  have BX := Lib.hid (below_one w (.cells #[.slice c.wa c.wn c.wc, .slice c.ka c.kn c.kc, .int .i64 c.W, .int .i64 c.C, .int .i64 c.S, .int .i64 c.B, .int .i64 c.L, .int .i64 c.H, .int .i64 c.F, .int .i64 c.P, .int .i64 c.J, .int .i64 c.N] 25))
  have IN := Lib.hid (cfgIn_new w c w.heap.size 25 (0, 0) rfl)
  obtain ⟨n, hn⟩ : ∃ n, c.shards = n := ⟨_, rfl⟩
  have SH := Lib.hid (rshards_any c n _ (h.below BX.out) hsm hn)
  rw [hn] at hs
  obtain ⟨y1, hy1⟩ : ∃ y, decide ((0 : Int) < c.C) = y := ⟨_, rfl⟩
  obtain ⟨y2, hy2⟩ : ∃ y, decide (x ≥ 0) = y := ⟨_, rfl⟩
  have hy3 : y2 = true → decide (x < (n : Int)) = false := fun e => decide_eq_false (fun h2 => hs ⟨of_decide_eq_true (hy2.trans e), h2⟩)
  clear h hsm hs hn
  go_enter Try.func19, Try.ntmps19
  go_upto_region 2 with fail
  generalize w.alloc (.cells #[.slice c.wa c.wn c.wc, .slice c.ka c.kn c.kc, .int .i64 c.W, .int .i64 c.C, .int .i64 c.S, .int .i64 c.B, .int .i64 c.L, .int .i64 c.H, .int .i64 c.F, .int .i64 c.P, .int .i64 c.J, .int .i64 c.N] 25) = w1 at *
  obtain ⟨p, hp⟩ : ∃ p, w.heap.size = p := ⟨_, rfl⟩
  have HP := Lib.hid hp
  rw [hp] at IN
  try simp only [hp]
  clear hp
  go_wp2_with fail
  go_loopw [5, 6] (fun ov iv wr => ov = .slice none 0 0 ∧ iv = .int .i64 0 ∧ wr = w1) (fun _ _ _ => 0)
  case atStart => exact ⟨rfl, rfl, rfl⟩
  case round =>
    obtain ⟨rfl, rfl, rfl⟩ := hrel
    have hI := IN.out
    unfold CfgIn at hI
    obtain ⟨i0', i1, i2, i3, i4, i5, i6, i7, i8, i9, i10, i11⟩ := hI
    cases y1
    · go_wp2_with fail
      go_ret
      exact ⟨none, 0, rfl, World.ownsRow_nil _ _ _ _, BX.out⟩
    · cases y2
      · go_wp2_with fail
        go_ret
        exact ⟨none, 0, rfl, World.ownsRow_nil _ _ _ _, BX.out⟩
      · have d3 := hy3 rfl
        go_wp2_with fail
        refine SH.out.mono ?_
        rintro e w2 ⟨rfl, hb2⟩
        have B2 := Lib.hid (BX.out.trans (hb2.mono BX.out.size))
        clear hb2 SH i0' i1 i2 i3 i4 i5 i6 i7 i8 i9 i10 i11
        go_wp2_with fail
        go_ret
        exact ⟨none, 0, rfl, World.ownsRow_nil _ _ _ _, B2.out⟩
theorem inF_not (M : List Int) (x : Int) (j : Nat) (hj : j < M.length) (hn : ∀ i, i < j → M.getD j 0 ≠ M.getD i 0) (e : M.getD j 0 = x) : inF M x j = false := by
  unfold inF
  refine decide_eq_false (fun h => ?_)
  obtain ⟨i, hi, he⟩ := List.getElem_of_mem h
  rw [List.length_take] at hi
  refine hn i (by omega) ?_
  rw [e, ← he, List.getElem_take, List.getD_eq_getElem?_getD, List.getElem?_eq_getElem (by omega)]; rfl
theorem own_atR {w : World} {B : Nat} {e : TypeId} {size n c k : Nat} {a : Option Addr} {xs : List Value} (h : w.ownsRow B e size (.slice a n c) n xs) (hk : (Value.slice a n c).ownBlock = some k) : a = some ⟨k, 0, none⟩ := by
  rcases Joins.ownsRow_forms h with ⟨e1, _⟩ | ⟨g, cap, e1⟩
  · injection e1 with e2; subst e2; cases hk
  · injection e1 with e2; subst e2; injection hk with hk; subst hk; rfl
/-- a row that grows beside a row that stays -/
structure KO (w0 : World) (p B : Nat) (c : Cfg) (K : List Nat) (av : Option Addr) (cv : Nat) (la : Option Addr) (C : Nat) (L : List Int) (w : World) : Prop where
  o : w.ownsRow B 3 1 (.slice av K.length cv) K.length (numsV (natsZ K))
  l : HoldsI .i64 w la C L
  d : ∀ g q o, av = some ⟨g, 0, none⟩ → la = some ⟨q, o, none⟩ → 0 < C → g ≠ q
  b : Below w0.heap.size w0 w
  i : CfgIn w p c
  s : w0.heap.size ≤ B
  p : p < B
theorem KO.more {w0 w w' : World} {p B cv C : Nat} {c : Cfg} {K : List Nat} {av la : Option Addr} {L : List Int} (h : KO w0 p B c K av cv la C L w) (hb : Below w.heap.size w w') : KO w0 p B c K av cv la C L w' :=
  ⟨owns_below h.o hb, h.l.below hb, h.d, h.b.trans (hb.mono h.b.size), h.i.below hb, h.s, h.p⟩
theorem KO.grow {w0 w w8 : World} {p B cv C g c' N : Nat} {c : Cfg} {K : List Nat} {av la : Option Addr} {L : List Int} (h : KO w0 p B c K av cv la C L w) (K' : List Nat) (hl : K'.length = N) (hown : w8.ownsRow B 3 1 (.slice (some ⟨g, 0, none⟩) N c') N (numsV (natsZ K'))) (hg : w.grownBy w8 (Value.slice av K.length cv).ownBlock) (hat : (Value.slice av K.length cv).ownBlock = some g ∨ g = w.heap.size) : KO w0 p B c K' (some ⟨g, 0, none⟩) c' la C L w8 := by
  subst hl
  refine ⟨hown, ⟨h.l.1, fun h0 => ?_⟩, fun g2 q o e1 e2 h0 => ?_, h.b.grown hg h.b.size (fun k e => Nat.le_trans h.s (h.o.lt k e).1), h.i.of fun i => hg.cell_far ⟨p, i, none⟩ (lt_of_cell h.i.1) (fun e => by have h1 := (h.o.lt p e.symm).1; have h2 := h.p; omega), h.s, h.p⟩
  · obtain ⟨q, o, ha, hc⟩ := h.l.2 h0
    exact ⟨q, o, ha, fun i hi => (hg.cell_far _ (lt_of_cell (hc i hi)) (fun e => h.d q q o (own_atR h.o e.symm) ha h0 rfl)).trans (hc i hi)⟩
  · injection e1 with e1; injection e1 with e1; subst e1
    rcases hat with e3 | e3
    · exact h.d _ q o (own_atR h.o e3) e2 h0
    · obtain ⟨q2, o2, ha, hc⟩ := h.l.2 h0
      rw [e2] at ha; injection ha with ha; injection ha with ha; subst ha
      have h5 : q < w.heap.size := lt_of_cell (hc 0 h0)
      omega
def kSoFar (K : List Nat) (s : Nat) (b : Bool) : List Nat := K ++ (if b then [s] else [])
theorem kSoFar_len (K : List Nat) (s : Nat) (b : Bool) : (kSoFar K s b).length ≤ K.length + 1 := by unfold kSoFar; cases b <;> simp
set_option maxHeartbeats 6400000 in
theorem rkeeps_in (c : Cfg) (x : Int) (W C : Nat) (w : World) (h : CfgOk w c) (hsm : c.small) (hm : c.may = true) (hW : c.W = (W : Int)) (hC : c.C = (C : Int)) :
    Calls Try.prog 20 #[.agg #[.slice c.wa c.wn c.wc, .slice c.ka c.kn c.kc, .int .i64 c.W, .int .i64 c.C, .int .i64 c.S, .int .i64 c.B, .int .i64 c.L, .int .i64 c.H, .int .i64 c.F, .int .i64 c.P, .int .i64 c.J, .int .i64 c.N], .int .i64 x] w (RetZ w (natsZ (Pl.keep W C (c.kn + 1) x))) := by
  obtain ⟨i0, hi, hz0, hz1, hz2⟩ := info_parts num_info
  have BX := Lib.hid (below_one w (.cells #[.slice c.wa c.wn c.wc, .slice c.ka c.kn c.kc, .int .i64 c.W, .int .i64 c.C, .int .i64 c.S, .int .i64 c.B, .int .i64 c.L, .int .i64 c.H, .int .i64 c.F, .int .i64 c.P, .int .i64 c.J, .int .i64 c.N] 25))
  have IN := Lib.hid (cfgIn_new w c w.heap.size 25 (0, 0) rfl)
  have OK := Lib.hid h
  have hk := may_kn hm h
  have HW := Lib.hid hW; have HC := Lib.hid hC; have HM := Lib.hid hm
  obtain ⟨-, -, hw, hc, -⟩ := may_parts hm
  rw [hW] at hw
  rw [hC, hW] at hc
  have H5 := Lib.hid (show W ≤ 5 ∧ C ≤ 3 ∧ C ≤ W from ⟨by omega, by omega, by omega⟩)
  obtain ⟨n, hn⟩ : ∃ n, c.kn + 1 = n := ⟨_, rfl⟩
  have HN := Lib.hid hn
  have SH := Lib.hid (fun w' (hb : Below w.heap.size w w') => rshards_any c n w' (OK.out.below hb) hsm (by unfold Cfg.shards; rw [hm, if_pos rfl]; exact hn))
  have HS := Lib.hid hsm
  rw [hn]
  have hn6 : n ≤ 6 := by omega
  have hC3 : C ≤ 3 := H5.out.2.1
  clear h hm hw hc hW hC hn hk hsm
  go_enter Try.func20, Try.ntmps20
  go_wp2_with fail
  go_loopw [5, 6] (fun ov iv wr => ∃ (j : Nat) (K : List Nat) (av : Option Addr) (cv : Nat), j ≤ n ∧ K.length ≤ j ∧ iv = .int .i64 j ∧ ov = .slice av K.length cv ∧ Hid (K = Pl.keep W C j x) ∧ Hid (wr.ownsRow (w.heap.size + 1) 3 1 (.slice av K.length cv) K.length (numsV (natsZ K))) ∧ Hid (Below w.heap.size w wr ∧ CfgIn wr w.heap.size c)) (fun _ iv _ => n - (intOf iv).toNat)
  case atStart => exact ⟨0, [], none, 0, by omega, by simp, rfl, rfl, Lib.hid rfl, Lib.hid (World.ownsRow_nil _ _ _ _), Lib.hid ⟨BX.out, IN.out⟩⟩
  case round =>
    obtain ⟨j, K, av, cv, hj, hKl, rfl, rfl, hK, hO, hB⟩ := hrel
    have CS := Lib.hid (SH.out wr hB.out.1)
    have hI := hB.out.2
    unfold CfgIn at hI
    obtain ⟨i0', i1, i2, i3, i4, i5, i6, i7, i8, i9, i10, i11⟩ := hI
    go_wp2_with fail
    refine CS.out.mono ?_
    rintro e w3 ⟨rfl, hb3⟩
    have O3 := Lib.hid (owns_below hO.out hb3)
    have B3 := Lib.hid (show Below w.heap.size w w3 ∧ CfgIn w3 w.heap.size c from ⟨hB.out.1.trans (hb3.mono hB.out.1.size), hB.out.2.below hb3⟩)
    clear hb3 CS i0' i1 i2 i3 i4 i5 i6 i7 i8 i9 i10 i11 hO hB
    have hI := B3.out.2
    unfold CfgIn at hI
    obtain ⟨i0', i1, i2, i3, i4, i5, i6, i7, i8, i9, i10, i11⟩ := hI
    by_cases hlt : j < n
    · have d1 : decide ((j : Int) < (n : Int)) = true := decide_eq_true (by omega)
      have CC := Lib.hid (rcopies_in c j W C w3 (OK.out.below B3.out.1) HS.out HM.out (by have := HN.out; omega) HW.out HC.out)
      obtain ⟨L, hL⟩ : ∃ L, Pl.cop W C j = L := ⟨_, rfl⟩
      have LL := Lib.hid (show L.length = C from by rw [← hL, Pl.cop_len])
      have LN := Lib.hid (show ∀ i j2, i < C → j2 < i → L.getD i 0 ≠ L.getD j2 0 from fun i j2 h1 h2 => by rw [← hL]; exact Pl.cop_ne H5.out.1 (by omega) h1 H5.out.2.2 (by omega) h2)
      have hks := Pl.keep_snoc W C j x
      rw [hL] at CC hks
      have KS := Lib.hid hks
      unfold RetZ at CC
      rw [LL.out] at CC
      clear hL hks
      go_wp2_with fail
      refine CC.out.mono ?_
      rintro e w4 ⟨la, lc, rfl, hown, hb4⟩
      have K4 := Lib.hid (show KO w w.heap.size (w.heap.size + 1) c K av cv la C L w4 from
        ⟨owns_below O3.out hb4, holdsZ_own hown, fun g q o e1 e2 h0 => by
          have h1 : g < w3.heap.size := by
            have h5 := O3.out
            rw [e1] at h5
            exact (h5.lt g rfl).2
          obtain ⟨q2, cp, hv⟩ := Joins.ownsRow_form hown h0
          simp only [Value.slice.injEq] at hv
          obtain ⟨hv, -, -⟩ := hv
          rw [hv] at e2; injection e2 with e2; injection e2 with e2 e3; subst e2
          subst hv
          have h2 : w3.heap.size ≤ q2 := (hown.lt q2 rfl).1
          omega, B3.out.1.trans (hb4.mono B3.out.1.size), B3.out.2.below hb4, by omega, by omega⟩)
      have Z0 := Lib.hid (inF_zero L x)
      clear hown hb4 CC i0' i1 i2 i3 i4 i5 i6 i7 i8 i9 i10 i11 O3 B3
      go_wp2_with fail
      go_loopw [5, 8] (fun ov iv wr => ∃ (j2 : Nat) (b : Bool) (av : Option Addr) (cv : Nat), j2 ≤ C ∧ iv = .int .i64 j2 ∧ ov = .slice av (kSoFar K j b).length cv ∧ Hid (inF L x j2 = b) ∧ Hid (KO w w.heap.size (w.heap.size + 1) c (kSoFar K j b) av cv la C L wr)) (fun _ iv _ => C - (intOf iv).toNat)
      case atStart =>
        have hk0 : kSoFar K j false = K := by simp [kSoFar]
        exact ⟨0, false, av, cv, by omega, rfl, by rw [hk0], Z0, Lib.hid (by rw [hk0]; exact K4.out)⟩
      case round =>
        clear K4 Z0
        obtain ⟨j2, b, av, cv, hj2, rfl, rfl, hb, hO⟩ := hrel
        by_cases hl2 : j2 < C
        · have e1 : decide ((j2 : Int) < (C : Int)) = true := decide_eq_true (by omega)
          obtain ⟨q, o, rfl, hcc⟩ := hO.out.l.at (by omega)
          have x1 := hcc j2 hl2
          obtain ⟨y, hy⟩ : ∃ y, L.getD j2 0 = y := ⟨_, rfl⟩
          rw [hy] at x1
          have hsc := inF_succ L x j2 (by rw [LL.out]; exact hl2)
          have hnt := inF_not L x j2 (by rw [LL.out]; exact hl2) (fun i h => LN.out j2 i hl2 h)
          rw [hb.out, hy] at hsc
          rw [hb.out, hy] at hnt
          have m1 : (0 : Int) ≤ (j2 : Int) := by omega
          have m2 : (j2 : Int) < (C : Int) := by omega
          by_cases hyx : y = x
          · obtain rfl : b = false := hnt hyx
            have f1 : (y == x) = true := by simpa using hyx
            have hk1 : kSoFar K j false = K := by simp [kSoFar]
            have hk2 : kSoFar K j true = K ++ [j] := by simp [kSoFar]
            have F := Lib.hid (show inF L x (j2 + 1) = true from by rw [hsc, f1]; rfl)
            have KA := Lib.hid hO.out
            rw [hk1] at KA
            rw [hk1]
            have KB := Lib.hid (KA.out.more (below_one wr (.cells #[.int .i64 (j : Int)] 3)))
            clear hcc hy hsc hnt hO hk1 hyx
            go_wp2_with (at_builtin; refine wpList_append_lies _ rfl (.tmp 30) (.tmp 32) 28 rfl (w.heap.size + 1) 3 i0 _ 1 8 Try.underlying28 hi hz0 hz1 hz2 rfl (by omega) (.slice av K.length cv) K.length (numsV (natsZ K)) (by rfl) KB.out.o ⟨wr.heap.size, 0, none⟩ 1 1 [.int .i64 (j : Int)] (by rfl) (by rfl) (World.news_of_block (cs := #[.int .i64 (j : Int)]) (t := 3) (fr := (0, 0)) (heap_alloc_new wr _)) (by simp [Value.oneCell']) (by omega) (by unfold maxLen; omega) (by omega) (by have h5 := KA.out.b.size; simp; omega) (wr.heap.size + 1) (by simp) ?_; intro g3 c3 w5 hown3 hgrow3 hat3 hlt3)
            have K5 := Lib.hid (KB.out.grow (K ++ [j]) (N := K.length + 1) (by simp) (by unfold numsV natsZ at hown3 ⊢; rw [List.map_append, List.map_append]; exact hown3) hgrow3 (hat3.imp id (fun h => by rw [h]; simp)))
            clear hown3 hgrow3 hat3 hlt3 KA KB
            go_roundw
            case rel => exact ⟨j2 + 1, true, some ⟨g3, 0, none⟩, c3, by omega, by go_num, by rw [hk2]; simp, F, Lib.hid (by rw [hk2]; exact K5.out)⟩
            case measure => simp [intOf] <;> omega
          · have f1 : (y == x) = false := by simpa using hyx
            have F := Lib.hid (show inF L x (j2 + 1) = b from by rw [hsc, f1]; simp)
            clear hcc hy hsc hnt hyx
            go_wp2_with fail
            go_roundw
            case rel => exact ⟨j2 + 1, b, av, cv, by omega, by go_num, rfl, F, hO⟩
            case measure => simp [intOf] <;> omega
        · obtain rfl : j2 = C := by omega
          have e1 : decide ((j2 : Int) < (j2 : Int)) = false := decide_eq_false (by omega)
          have K2 := Lib.hid (show kSoFar K j b = Pl.keep W j2 (j + 1) x from by
            rw [KS.out, ← hK.out]
            have hb2 := hb.out
            unfold inF at hb2
            rw [← LL.out, List.take_length] at hb2
            unfold kSoFar
            rw [← hb2]
            by_cases hx : x ∈ L <;> simp [hx])
          have hkl := kSoFar_len K j b
          go_wp2_with fail
          go_roundw
          case rel => exact ⟨j + 1, kSoFar K j b, av, cv, by omega, by omega, by go_num, rfl, K2, Lib.hid hO.out.o, Lib.hid ⟨hO.out.b, hO.out.i⟩⟩
          case measure => simp [intOf] <;> omega
    · obtain rfl : j = n := by omega
      have d1 : decide ((j : Int) < (j : Int)) = false := decide_eq_false (by omega)
      go_wp2_with fail
      go_ret
      refine ⟨av, cv, by rw [← hK.out, natsZ_len]; rfl, ?_, B3.out.1⟩
      rw [← hK.out, natsZ_len]
      have := O3.out
      exact ⟨this.1, this.2.imp id (fun ⟨g, cap, cur, hv, hge, r⟩ => ⟨g, cap, cur, hv, by omega, r⟩)⟩
end Go.Proofs.Ytbimbgcejeeinaa
/- the document's parts: Of, Slice -/
namespace Go.Proofs.Ytbimbgcejeeinaa
open Go.RowKit
set_option linter.unusedVariables false
set_option maxRecDepth 20000
theorem ofN_lo {ks : List KV} {k : KV} {i : Nat} (h : i < ofN ks k) : lessK k (ks.getD i k0) = false := by
  have hl : i < ks.length := Nat.lt_of_lt_of_le h (ofN_le ks k)
  have h2 := List.not_of_lt_findIdx h
  rw [List.getD_eq_getElem?_getD, List.getElem?_eq_getElem hl]
  unfold lessK
  simpa using h2
theorem ofN_hi {ks : List KV} (hs : SortedK ks) {k : KV} {i : Nat} (h : ofN ks k ≤ i) (hi : i < ks.length) : lessK k (ks.getD i k0) = true := by
  have hf : ofN ks k < ks.length := by omega
  have h1 : lessK k (ks[ofN ks k]'hf) = true := List.findIdx_getElem (p := fun c => decide (ordK k c < 0)) (w := hf)
  rw [List.getD_eq_getElem?_getD, List.getElem?_eq_getElem hi]
  rcases Nat.eq_or_lt_of_le h with e | e
  · simp only [← e]; exact h1
  · exact decide_eq_true (ordK_trans (of_decide_eq_true h1) ((List.pairwise_iff_getElem.1 hs) _ _ hf hi e))
def Two2 (w0 : World) (b p : Nat) (x : KV) (w : World) : Prop := Below w0.heap.size w0 w ∧ w.cell? ⟨b, p, none⟩ = some (.int .i64 x.1) ∧ w.cell? ⟨b, p + 1, none⟩ = some (.string x.2)
theorem two2_carry {w0 w w' : World} {b p : Nat} {x : KV} (h : Two2 w0 b p x w) (hb : Below w.heap.size w w') : Two2 w0 b p x w' :=
  ⟨h.1.trans (hb.mono h.1.size), (hb.cell (p := ⟨b, p, none⟩) (lt_of_cell h.2.1)).trans h.2.1, (hb.cell (p := ⟨b, p + 1, none⟩) (lt_of_cell h.2.2)).trans h.2.2⟩
set_option maxHeartbeats 3200000 in
theorem rof_any (a : Option Addr) (n cap : Nat) (ks : List KV) (t : Tx) (w : World) (hh : HoldsK w a n ks) (hn : n ≤ 1000) (hs : SortedK ks) (hk : ∀ k ∈ ks, k.2.size ≤ 1048576) (ht : t.size ≤ 1048576) (hw : wordP t) :
    Calls Try.prog 64 #[.slice a n cap, .string t] w fun e w' => e = .returned (.int .i64 (ofZ ks t)) ∧ Below w.heap.size w w' := by
  have hl := hh.len
  rw [show ofZ ks t = ofN ks (keyOf t) from if_pos hw]
  have hfl := ofN_le ks (keyOf t)
  have LO := Lib.hid (fun i (h : i < ofN ks (keyOf t)) => ofN_lo h)
  have HI := Lib.hid (fun i (h : ofN ks (keyOf t) ≤ i) (h2 : i < ks.length) => ofN_hi hs h h2)
  obtain ⟨f, hf⟩ : ∃ f, ofN ks (keyOf t) = f := ⟨_, rfl⟩
  rw [hf] at hfl LO HI ⊢
  rw [hl] at hfl HI
  unfold keyOf at LO HI
  obtain ⟨v, hv⟩ : ∃ v, lenS t = v := ⟨_, rfl⟩
  rw [hv] at LO HI
  have HD := Lib.hid (decide_eq_true hw)
  have CL := Lib.hid (fun w' => rlen_lit t v w' ht hv)
  have HH := Lib.hid hh
  have HK := Lib.hid (show ∀ i, i < n → (ks.getD i k0).2.size ≤ 1048576 from fun i h => hk _ (getD_memK ks i (by omega)))
  clear hf hv hl hw hs hk hh
  go_enter Try.func64, Try.ntmps64
  go_wp2_with fail
  refine (rword_bool t true ht HD.out).mono ?_
  rintro e w1 ⟨rfl, hb1⟩
  have B1 := Lib.hid hb1
  clear hb1
  go_wp2_with fail
  go_loopw [5, 6] (fun nv iv wr => ∃ (i m : Nat), i ≤ n ∧ iv = .int .i64 i ∧ nv = .int .i64 m ∧ m = min i f ∧ Hid (Below w.heap.size w wr)) (fun _ iv _ => n - (intOf iv).toNat)
  case atStart => exact ⟨0, 0, by omega, rfl, rfl, by omega, B1⟩
  case round =>
    clear B1
    obtain ⟨i, m, hi, rfl, rfl, hm, hB⟩ := hrel
    by_cases hlt : i < n
    · obtain ⟨b, o, rfl, hc⟩ := (HH.out.below hB.out).at (by omega)
      obtain ⟨e1, e2⟩ := hc i hlt
      have s1 := HK.out i hlt
      obtain ⟨z, hz⟩ : ∃ z, lessK (v, t) (ks.getD i k0) = z := ⟨_, rfl⟩
      have hzf : z = decide (f ≤ i) := by
        rw [← hz]
        by_cases h : f ≤ i
        · rw [HI.out i h hlt, decide_eq_true h]
        · rw [LO.out i (by omega), decide_eq_false h]
      have CC := Lib.hid (fun w' => rless_lit (v, t) (ks.getD i k0) z hz w' ht s1)
      obtain ⟨y, hy⟩ : ∃ y, ks.getD i k0 = y := ⟨_, rfl⟩
      rw [hy] at e1 e2 CC
      have T := Lib.hid (show Two2 wr b (o + i * 2) y wr from ⟨Below.refl _ _, e1, e2⟩)
      unfold keyV at CC
      simp only at CC
      have HZ := Lib.hid hzf
      have g1 : (0 : Int) ≤ (i : Int) := by omega
      have g2 : (i : Int) < (n : Int) := by omega
      have bs := hB.out.size
      clear hc hz hy s1 hzf
      go_upto_region 7 with fail
      clear e1 e2
      go_region_held3 (fun w' => Below wr.heap.size wr w' ∧ w'.cell? ⟨b, o + i * 2, none⟩ = some (.int .i64 y.1) ∧ w'.cell? ⟨b, o + i * 2 + 1, none⟩ = some (.string y.2))
        (first | assumption | exact two2_carry T.out (below_drewN wr _) | exact two2_carry T.out (Below.refl _ _).drew | exact two2_carry (by assumption) (by assumption))
        (first
          | (go_at_call 62; (with_reducible refine (CL.out _).mono ?_); rintro e w' ⟨rfl, hbl⟩)
          | (go_at_call 63; (with_reducible refine (CC.out _).mono ?_); rintro e w' ⟨rfl, hb⟩)
          | fail)
      rename_i T5
      obtain ⟨hb5, -⟩ := T5
      have B5 := Lib.hid (hB.out.trans (hb5.mono bs))
      have hz := HZ.out
      clear hb5 T CL CC LO HI HK HZ hB
      cases z
      · have hfi : ¬ f ≤ i := fun h => by rw [decide_eq_true h] at hz; cases hz
        clear hz
        go_wp2_with fail
        go_roundw
        case rel => exact ⟨i + 1, m + 1, by omega, by go_num, by go_num, by omega, B5⟩
        case measure => simp [intOf]; omega
      · have hfi : f ≤ i := of_decide_eq_true hz.symm
        clear hz
        go_wp2_with fail
        go_roundw
        case rel => exact ⟨i + 1, m, by omega, by go_num, by first | rfl | rw [hm], by omega, B5⟩
        case measure => simp [intOf]; omega
    · obtain rfl : i = n := by omega
      obtain rfl : m = f := by omega
      go_wp2_with fail
      go_ret
      exact ⟨rfl, hB.out⟩
theorem rof_lit (a : Option Addr) (n cap : Nat) (ks : List KV) (t : Tx) (v : Int) (w : World) (hh : HoldsK w a n ks) (hn : n ≤ 1000) (hs : SortedK ks) (hk : ∀ k ∈ ks, k.2.size ≤ 1048576) (ht : t.size ≤ 1048576) (hw : wordP t) (hv : ofZ ks t = v) :
    Calls Try.prog 64 #[.slice a n cap, .string t] w fun e w' => e = .returned (.int .i64 v) ∧ Below w.heap.size w w' := by subst hv; exact rof_any a n cap ks t w hh hn hs hk ht hw
set_option maxHeartbeats 3200000 in
theorem rslice_any (a : Option Addr) (n cap : Nat) (ks : List KV) (a1 : Option Addr) (n1 cap1 : Nat) (ws : List Tx) (s : Nat) (w : World) (hh : HoldsK w a n ks) (hh1 : HoldsT w a1 n1 ws) (hn : n ≤ 1000) (hn1 : n1 ≤ 1000) (hs : s ≤ 1000) (hso : SortedK ks) (hk : ∀ k ∈ ks, k.2.size ≤ 1048576) (hsz : ∀ t ∈ ws, t.size ≤ 1048576) :
    Calls Try.prog 44 #[.slice a n cap, .slice a1 n1 cap1, .int .i64 s] w (RetO w (sliceS ks ws s)) := by
  obtain ⟨i0, hi, hz0, hz1, hz2⟩ := info_parts str_info
  have hl := hh1.len
  go_enter Try.func44, Try.ntmps44
  go_wp2_with fail
  go_loopw [7, 8] (fun ov iv wr => ∃ (j : Nat) (P : List Tx), j ≤ n1 ∧ P.length ≤ j ∧ iv = .int .i64 j ∧ Hid (P = sliceS ks (ws.take j) s) ∧ Hid (wr.ownsRow w.heap.size 9 1 ov P.length (strsV P)) ∧ Hid (Below w.heap.size w wr)) (fun _ iv _ => n1 - (intOf iv).toNat)
  case atStart => exact ⟨0, [], by omega, by simp, rfl, Lib.hid rfl, Lib.hid (World.ownsRow_nil _ _ _ _), Lib.hid (Below.refl _ _)⟩
  case round =>
    obtain ⟨j, P, hj, hPl, rfl, hP, hO, hB⟩ := hrel
    by_cases hlt : j < n1
    · have hcell := hh1.at (by omega)
      obtain ⟨bb, o, rfl, hc'⟩ := hcell
      have e0 := hc' j hlt
      have HC := Lib.hid (fun (w3 : World) (hb : Below w.heap.size w w3) => show w3.cell? ⟨bb, o + j, none⟩ = some (.string (ws.getD j ByteArray.empty)) from (hb.cell (p := ⟨bb, o + j, none⟩) (lt_of_cell e0)).trans e0)
      have hmem := getD_memT' ws j (by omega)
      have htk := take_succ_getD ws ByteArray.empty j (by omega)
      obtain ⟨x, hx⟩ : ∃ x, ws.getD j ByteArray.empty = x := ⟨_, rfl⟩
      rw [hx] at htk hmem
      simp only [hx] at HC
      have HT := Lib.hid htk
      have HX := Lib.hid (hsz x hmem)
      clear hx htk hc' e0 hmem
      have e1 := HC.out _ hB.out
      obtain ⟨y, hy⟩ : ∃ y, decide (wordP x) = y := ⟨_, rfl⟩
      have HY := Lib.hid hy
      obtain ⟨v, hv⟩ : ∃ v, ofZ ks x = v := ⟨_, rfl⟩
      have HV := Lib.hid hv
      clear hy
      go_wp2_with fail
      refine (rword_bool x y HX.out HY.out).mono ?_
      rintro e w2 ⟨rfl, hb2⟩
      have O2 := Lib.hid (owns_below hO.out hb2)
      have B2 := Lib.hid (hB.out.trans (hb2.mono hB.out.size))
      have e2 := HC.out _ B2.out
      clear hb2 e1 hO hB
      cases y
      · have hls := sliceS_no ks (ws.take j) s x (by rw [show ofZ ks x = -1 from if_neg (of_decide_eq_false HY.out)]; omega)
        rw [← HT.out, ← hP.out] at hls
        have HL := Lib.hid hls
        clear hls hv
        go_wp2_with fail
        go_roundw
        case rel => exact ⟨j + 1, P, by omega, by omega, by go_num, Lib.hid HL.out.symm, O2, B2⟩
        case measure => simp [intOf]; omega
      · have CF := Lib.hid (rof_lit a n cap ks x v w2 (hh.below B2.out) hn hso hk HX.out (of_decide_eq_true HY.out) HV.out)
        by_cases hin : v = (s : Int)
        · subst hin
          have hls := sliceS_yes ks (ws.take j) s x hv
          rw [← HT.out, ← hP.out] at hls
          have HL := Lib.hid hls
          have g2 : ((s : Int) == (s : Int)) = true := by simp
          clear hls hv
          go_wp2_with fail
          refine CF.out.mono ?_
          rintro e w3 ⟨rfl, hb3⟩
          have O3 := Lib.hid (owns_below O2.out hb3)
          have B3 := Lib.hid (B2.out.trans (hb3.mono B2.out.size))
          have e3 := HC.out _ B3.out
          clear hb3 e2 O2 B2 CF
          go_wp2_with (at_builtin; refine wpList_append_any rfl (.tmp 30) (.tmp 35) 22 rfl w.heap.size 9 i0 (.string ⟨#[]⟩) 1 16 Try.underlying22 hi hz0 hz1 hz2 rfl (by decide) _ P.length _ rfl (O3.out.alloc _) _ 1 1 _ rfl (some_none _) rfl (one_new _ _ _ _) (one_str _) (by unfold maxLen; omega) (by omega) (by have := B3.out.size; simp; omega) ?_; intro a3 c3 w4 hown3 hb3 hnil3)
          rw [← strsV_snoc] at hown3
          have O4 := Lib.hid hown3
          have B4 := Lib.hid ((B3.out.alloc B3.out.size _).trans hb3)
          clear hown3 hb3 hnil3
          go_roundw
          case rel => exact ⟨j + 1, P ++ [x], by omega, by simp; omega, by go_num, Lib.hid HL.out.symm, Lib.hid (by have := O4.out; simpa using this), B4⟩
          case measure => simp [intOf]; omega
        · have hls := sliceS_no ks (ws.take j) s x (by rw [hv]; exact hin)
          rw [← HT.out, ← hP.out] at hls
          have HL := Lib.hid hls
          have g2 : (v == (s : Int)) = false := by simpa using hin
          clear hls hv
          go_wp2_with fail
          refine CF.out.mono ?_
          rintro e w3 ⟨rfl, hb3⟩
          have O3 := Lib.hid (owns_below O2.out hb3)
          have B3 := Lib.hid (B2.out.trans (hb3.mono B2.out.size))
          clear hb3 e2 O2 B2 CF
          go_wp2_with fail
          go_roundw
          case rel => exact ⟨j + 1, P, by omega, by omega, by go_num, Lib.hid HL.out.symm, O3, B3⟩
          case measure => simp [intOf]; omega
    · have hjn : ws.take j = ws := List.take_of_length_le (by omega)
      have hP2 := hP.out
      rw [hjn] at hP2
      have HP := Lib.hid hP2
      clear hP hP2 hjn
      obtain ⟨a4, c4, rfl⟩ : ∃ a4 c4, u7 = .slice a4 P.length c4 := by
        rcases hO.out.2 with ⟨h, h0⟩ | ⟨g', c', cur, h, _⟩
        · exact ⟨none, 0, by rw [h, h0]⟩
        · exact ⟨_, c', h⟩
      have g0 : decide ((j : Int) < (n1 : Int)) = false := decide_eq_false (by omega)
      go_wp2_with fail
      go_ret
      exact ret_own HP.out rfl hO.out hB.out _ rfl
end Go.Proofs.Ytbimbgcejeeinaa
/- contract of the reference's sum -/
namespace Go.Proofs.Ytbimbgcejeeinaa
open Go.RowKit
set_option linter.unusedVariables false
set_option maxRecDepth 20000

theorem bit_of (x j : Nat) : ((x : Int) / 2 ^ j).tmod 2 = ((x / 2 ^ j % 2 : Nat) : Int) := by
  rw [Int.tmod_eq_emod_of_nonneg (Int.ediv_nonneg (by omega) (Int.pow_nonneg (by decide)))]
  norm_cast
theorem rst_yes (y x j : Nat) (h : y % 2 ≠ x / 2 ^ j % 2) : (((y : Int) % 2 != ((x : Int) / 2 ^ j).tmod 2)) = true := by
  rw [bit_of, bne_iff_ne]; omega
theorem rst_no (y x j : Nat) (h : y % 2 = x / 2 ^ j % 2) : (((y : Int) % 2 != ((x : Int) / 2 ^ j).tmod 2)) = false := by
  rw [bit_of, bne_eq_false_iff_eq]; omega
theorem flip_sub (r : Nat) (h : r < 4294967296) : (4294967295 : Int) - (r : Int) = ((4294967295 - r : Nat) : Int) := by omega

set_option maxHeartbeats 800000 in
theorem rsumOf_any (a : Option Addr) (n cap : Nat) (bs : List Nat) (w : World) (h : HoldsB w a n bs) (hn : n ≤ 4611686018427387904) :
    Calls Try.prog 106 #[.slice a n cap] w fun e w' => e = .returned (.int .u32 (Crc.sum bs)) ∧ w = w' := by
  have hl := h.len
  have hb := h.2
  rcases Nat.eq_zero_or_pos n with h0 | h0
  · subst h0
    obtain rfl := List.eq_nil_of_length_eq_zero hl
    clear h hl hb hn
    go_enter Try.func106, Try.ntmps106
    go_wp2
    go_loop [3, 4] (fun x i => i = .int .i64 0 ∧ x = .int .u32 4294967295) (fun _ _ => 0)
    case atStart => exact ⟨rfl, rfl⟩
    case round =>
      obtain ⟨rfl, rfl⟩ := hrel
      go_wp2
      go_ret
      exact ⟨rfl, rfl⟩
  · obtain ⟨b, o, rfl, hcell⟩ := h.at h0
    have HC := Lib.hid hcell; have HL := Lib.hid hl; have HB := Lib.hid hb
    clear hcell hl hb h
    go_enter Try.func106, Try.ntmps106
    go_wp2
    go_loop [3, 4] (fun x i => ∃ k : Nat, k ≤ n ∧ i = .int .i64 k ∧ x = .int .u32 (Crc.reg 4294967295 (bs.take k) : Nat)) (fun _ i => n - (intOf i).toNat)
    case atStart => exact ⟨0, by omega, rfl, rfl⟩
    case round =>
      obtain ⟨k, hk, rfl, rfl⟩ := hrel
      have hr := Crc.reg_lt (bs.take k) (fun x hx => HB.out x (List.mem_of_mem_take hx)) 4294967295 (by omega)
      by_cases hlt : k < n
      · have e1 := HC.out k hlt
        have hx := getD_lt HB.out k
        have hts := take_succ_getD bs 0 k (by rw [HL.out]; exact hlt)
        have hs : Crc.reg 4294967295 (bs.take (k + 1)) = Crc.rstN (Crc.reg 4294967295 (bs.take k)) (bs.getD k 0) 8 := by rw [hts, Crc.reg_append, Crc.rstN_8 _ _ hx]; rfl
        have HS := Lib.hid hs
        clear hs hts
        obtain ⟨x, hx1⟩ : ∃ x, bs.getD k 0 = x := ⟨_, rfl⟩
        obtain ⟨r, hr1⟩ : ∃ r, Crc.reg 4294967295 (bs.take k) = r := ⟨_, rfl⟩
        rw [hx1] at e1 hx HS
        rw [hr1] at hr HS ⊢
        clear hx1 hr1
        go_wp2
        go_loop [3, 5, 6] (fun c i _ => ∃ j : Nat, j ≤ 8 ∧ i = .int .i64 j ∧ c = .int .u32 (Crc.rstN r x j : Nat)) (fun _ i _ => 8 - (intOf i).toNat)
        case atStart => exact ⟨0, by omega, rfl, rfl⟩
        case round =>
          obtain ⟨j, hj, rfl, rfl⟩ := hrel
          have hy := Crc.rstN_lt hr hx j
          have hs : Crc.rstN r x (j + 1) = Crc.rst (Crc.rstN r x j) (x / 2 ^ j % 2) := rfl
          have HS2 := Lib.hid hs
          clear hs
          obtain ⟨y, hyy⟩ : ∃ y, Crc.rstN r x j = y := ⟨_, rfl⟩
          rw [hyy] at hy HS2 ⊢
          have HYY := Lib.hid hyy
          clear hyy
          by_cases hl8 : j < 8
          · by_cases hb : y % 2 = x / 2 ^ j % 2
            · have ht := rst_no y x j hb
              have HB2 := Lib.hid hb
              clear hb
              go_wp2
              go_round
              case rel => exact ⟨j + 1, by omega, by go_num, by rw [HS2.out, Crc.rst, if_neg (fun h => h HB2.out)]; go_num⟩
              case measure => simp [intOf]; omega
            · have ht := rst_yes y x j hb
              have HB2 := Lib.hid hb
              clear hb
              go_wp2
              go_round
              case rel => exact ⟨j + 1, by omega, by go_num, by rw [HS2.out, Crc.rst, if_pos HB2.out, xor_poly y hy]⟩
              case measure => simp [intOf]; omega
          · obtain rfl : j = 8 := by omega
            go_wp2
            go_round
            case rel => exact ⟨k + 1, by omega, by go_num, by rw [HS.out, HYY.out]⟩
            case measure => simp [intOf]; omega
      · have hkn : k = n := by omega
        have HK := Lib.hid hkn
        clear hkn
        go_wp2
        go_ret
        exact ⟨ret_int (by rw [flip_sub _ hr, List.take_of_length_le (by rw [HL.out, HK.out]; exact Nat.le_refl _)]; rfl), rfl⟩
end Go.Proofs.Ytbimbgcejeeinaa
/- the document's Text, Prefix of one rune; its same -/
namespace Go.Proofs.Ytbimbgcejeeinaa
open Go.RowKit
set_option linter.unusedVariables false
set_option maxRecDepth 20000
theorem encS_nums (r : Int) (l : List Int) (h : Lib.encodeRuneZ r = l) : strOfNums l = encS r := by
  subst h; rfl
theorem conv_lit (w : World) (xs : List Int) (n : Nat) (hn : xs.length = n) (h0 : 0 < n) : (convert 31 9 (.slice (some ⟨w.heap.size, 0, none⟩) n n)).run Try.prog (w.alloc (.cells (xs.map (Value.int .u8)).toArray 5)) = .ok (.string (strOfNums xs)) (w.alloc (.cells (xs.map (Value.int .u8)).toArray 5)) := by
  refine run_convert_bytes_arg (P := Try.prog) _ 31 5 Try.underlying31 Try.underlying5 w.heap.size 0 n n xs hn (fun i hi => ?_) 9 Try.underlying9
  show (w.alloc (.cells (xs.map (Value.int .u8)).toArray 5)).cell? _ = _
  rw [Nat.zero_add, World.cell?_alloc_mark]
  simp [List.getD_eq_getElem?_getD, hn, hi]
set_option maxHeartbeats 1600000 in
theorem bytes_any (r : Int) (w : World) (h : goodP r) :
    Calls Try.prog 119 #[.int .i32 r] w fun e w' => e = .returned (.string (encS r)) ∧ Below w.heap.size w w' := by
  have hc : r < 128 ∨ (128 ≤ r ∧ r < 2048) ∨ (2048 ≤ r ∧ r < 65536) ∨ 65536 ≤ r := by omega
  obtain ⟨g0, g1, g2, g3⟩ := h
  rcases hc with h | ⟨h, h2⟩ | ⟨h, h2⟩ | h
  · have hconv := conv_lit w [r] 1 rfl (by omega)
    have E := Lib.hid (encS_nums r _ (Lib.encodeRuneZ_one g0 (by omega)))
    dsimp only [List.map] at hconv
    go_enter Try.func119, Try.ntmps119
    go_wp2_with fail
    go_ret
    exact ⟨(show Ending.returned (Value.string _) = .returned (Value.string _) by rw [E.out]), below_one _ _⟩
  · have hconv := conv_lit w [192 + r / 64, 128 + r % 64] 2 rfl (by omega)
    have E := Lib.hid (encS_nums r _ (Lib.encodeRuneZ_two (by omega) (by omega)))
    dsimp only [List.map] at hconv
    go_enter Try.func119, Try.ntmps119
    go_wp2_with fail
    go_ret
    exact ⟨(show Ending.returned (Value.string _) = .returned (Value.string _) by rw [E.out]), below_one _ _⟩
  · have hconv := conv_lit w [224 + r / 4096, 128 + r / 64 % 64, 128 + r % 64] 3 rfl (by omega)
    have E := Lib.hid (encS_nums r _ (Lib.encodeRuneZ_three (by omega)))
    dsimp only [List.map] at hconv
    go_enter Try.func119, Try.ntmps119
    go_wp2_with fail
    go_ret
    exact ⟨(show Ending.returned (Value.string _) = .returned (Value.string _) by rw [E.out]), below_one _ _⟩
  · have hconv := conv_lit w [240 + r / 262144, 128 + r / 4096 % 64, 128 + r / 64 % 64, 128 + r % 64] 4 rfl (by omega)
    have E := Lib.hid (encS_nums r _ (Lib.encodeRuneZ_four (by omega) (by omega)))
    dsimp only [List.map] at hconv
    go_enter Try.func119, Try.ntmps119
    go_wp2_with fail
    go_ret
    exact ⟨(show Ending.returned (Value.string _) = .returned (Value.string _) by rw [E.out]), below_one _ _⟩
set_option maxHeartbeats 1600000 in
theorem rtext_any (a : Option Addr) (n cap : Nat) (zs : List Int) (w : World) (hh : HoldsI .i32 w a n zs) (hn : n ≤ 1048576) :
    Calls Try.prog 115 #[.slice a n cap] w fun e w' => e = .returned (.tuple #[.string (textZ zs), .bool (decide (allG zs))]) ∧ Below w.heap.size w w' := by
  have hl := hh.len
  go_enter Try.func115, Try.ntmps115
  go_wp2_with fail
  go_loopw [4, 5] (fun sv cv wr => ∃ j : Nat, j ≤ n ∧ cv = .int .i64 j ∧ sv = .string (encB (zs.take j)) ∧ Hid (allG (zs.take j)) ∧ Hid (Below w.heap.size w wr)) (fun _ cv _ => n - (intOf cv).toNat)
  case atStart =>
    refine ⟨0, by omega, rfl, rfl, Lib.hid (by simp [allG]), Lib.hid (Below.refl _ _)⟩
  case round =>
    obtain ⟨j, hj, rfl, rfl, hG, hB⟩ := hrel
    have hs := hB.out.size
    by_cases hlt : j < n
    · obtain ⟨b, o, rfl, hc⟩ := (hh.below hB.out).at (by omega)
      have H2 := Lib.hid (fun w2 (hb : Below wr.heap.size wr w2) => ((hh.below hB.out).below hb))
      have e1 := hc j hlt
      have hmem := getD_mem' zs j (by omega)
      have htk := take_succ_getD zs 0 j (by omega)
      obtain ⟨x, hx⟩ : ∃ x, zs.getD j 0 = x := ⟨_, rfl⟩
      rw [hx] at e1 hmem htk
      have HM := Lib.hid hmem; have HT := Lib.hid htk
      clear hx hmem htk hc
      have hgd := fun w => good_any x w
      by_cases hg : goodP x
      · rw [decide_eq_true hg] at hgd
        have HG := Lib.hid hg; have HD := Lib.hid hgd
        clear hg hgd
        have hsz : (encB (zs.take j)).size ≤ 4194304 := by
          have h1 := encB_size (zs.take j)
          have h2 : (zs.take j).length ≤ j := List.length_take_le _ _
          omega
        obtain ⟨S, hS⟩ : ∃ S, encB (zs.take j) = S := ⟨_, rfl⟩
        rw [hS] at hsz ⊢
        have HS := Lib.hid hS
        clear hS
        go_wp2_with fail
        refine (HD.out _).mono ?_
        rintro e w' ⟨rfl, rfl⟩
        go_wp2_with fail
        refine (bytes_any x _ HG.out).mono ?_
        rintro e w2 ⟨rfl, hb2⟩
        have hes : S ++ encS x = encB (zs.take (j + 1)) := by rw [← HS.out, encB_snoc, HT.out]
        have hsz2 : (encS x).size ≤ 4 := by
          have h1 := encode_le x
          simpa [encS, ByteArray.size] using h1
        go_wp2_with fail
        go_roundw
        case rel => exact ⟨j + 1, by omega, by go_num, rfl, Lib.hid (by rw [HT.out]; intro z hz; rcases List.mem_append.1 hz with hz | hz; exact hG.out z hz; simp at hz; rw [hz]; exact HG.out), Lib.hid (hB.out.trans (hb2.mono hs))⟩
        case measure => simp [intOf]; omega
      · rw [decide_eq_false hg] at hgd
        have hb2 := textZ_bad x HM.out hg
        have HD := Lib.hid hgd; have HB := Lib.hid hb2
        clear hg hgd hb2
        go_wp2_with fail
        refine (HD.out _).mono ?_
        rintro e w' ⟨rfl, rfl⟩
        go_wp2_with fail
        go_ret2
        exact ⟨by rw [HB.out.1, HB.out.2]; rfl, hB.out⟩
    · have hjn : zs.take j = zs := List.take_of_length_le (by omega)
      have hg := textZ_good (show allG zs by have := hG.out; rw [hjn] at this; exact this)
      have HJ := Lib.hid hjn; have HG := Lib.hid hg
      clear hjn hg
      go_wp2_with fail
      go_ret2
      exact ⟨by rw [HG.out.1, HG.out.2, HJ.out]; rfl, hB.out⟩
set_option maxHeartbeats 400000 in
theorem same8_any (a1 a2 : Option Addr) (n1 c1 n2 c2 : Nat) (z1 z2 : List Tx) (w : World) (h1 : HoldsT w a1 n1 z1) (h2 : HoldsT w a2 n2 z2) (hl1 : n1 ≤ 4611686018427387904) (hl2 : n2 ≤ 4611686018427387904) :
    Calls Try.prog 104 #[.slice a1 n1 c1, .slice a2 n2 c2] w fun e w' => e = .returned (.bool (decide (z1 = z2))) ∧ ∃ m, w' = w.drewN m := by
  have g1 := h1.len
  have g2 := h2.len
  have g1' := fun h0 => h1.at h0
  have g2' := fun h0 => h2.at h0
  clear h1 h2
  by_cases hn : n1 = n2
  · subst hn
    rcases Nat.eq_zero_or_pos n1 with h0 | h0
    · subst h0
      clear g1' g2'
      obtain rfl := List.eq_nil_of_length_eq_zero g1
      obtain rfl := List.eq_nil_of_length_eq_zero g2
      go_enter Try.func104, Try.ntmps104
      go_wp2
      go_loop [5] (fun i => i = .int .i64 0) (fun _ => 0)
      case atStart => rfl
      case round =>
        obtain rfl := hrel
        go_wp2
        go_ret
        exact ⟨rfl, 0, rfl⟩
    · obtain ⟨b1, o1, rfl, k1⟩ := g1' h0
      obtain ⟨b2, o2, rfl, k2⟩ := g2' h0
      clear g1' g2'
      have G1 := Lib.hid g1; have G2 := Lib.hid g2; have K1 := Lib.hid k1; have K2 := Lib.hid k2
      clear g1 g2 k1 k2
      go_enter Try.func104, Try.ntmps104
      go_wp2
      go_loopw [5] (fun i wr => ∃ k m : Nat, k ≤ n1 ∧ i = .int .i64 k ∧ z1.take k = z2.take k ∧ wr = w.drewN m) (fun i _ => n1 - (intOf i).toNat)
      case atStart => exact ⟨0, 0, by omega, rfl, rfl, rfl⟩
      case round =>
        obtain ⟨k, m, hk, rfl, he, rfl⟩ := hrel
        have HE := Lib.hid he
        clear he
        by_cases hlt : k < n1
        · have e1 := K1.out k hlt
          have e2 := K2.out k hlt
          obtain ⟨x, hx⟩ : ∃ x, z1.getD k ByteArray.empty = x := ⟨_, rfl⟩
          obtain ⟨y, hy⟩ : ∃ y, z2.getD k ByteArray.empty = y := ⟨_, rfl⟩
          rw [hx] at e1; rw [hy] at e2
          have HX := Lib.hid hx; have HY := Lib.hid hy
          clear hx hy
          by_cases hxy : x = y
          · subst hxy
            have hb := str_same x
            go_wp2
            go_quiet (fail)
            go_wp2
            go_roundw
            case rel => exact ⟨k + 1, _, by omega, by go_num, by rw [take_succ_getD z1 ByteArray.empty k (by rw [G1.out]; exact hlt), take_succ_getD z2 ByteArray.empty k (by rw [G2.out]; exact hlt), HE.out, HX.out, HY.out], rfl⟩
            case measure => simp [intOf]; omega
          · have hb := str_other hxy
            have HXY := Lib.hid hxy
            clear hxy
            go_wp2
            go_quiet (fail)
            go_wp2
            go_ret
            exact ⟨ret_bool (by symm; rw [decide_eq_false_iff_not]; exact take_ne_of_getD ByteArray.empty k (by rw [HX.out, HY.out]; exact HXY.out)), _, World.drewN_drewN _ _ _⟩
        · have hkn : k = n1 := by omega
          have HK := Lib.hid hkn
          clear hkn
          go_wp2
          go_ret
          exact ⟨ret_bool (by symm; rw [decide_eq_true_iff]; exact take_eq_all (n := k) HE.out (by rw [G1.out, HK.out]) (by rw [G2.out, HK.out])), _, rfl⟩
  · have hb : ((n1 : Int) != (n2 : Int)) = true := by simp; omega
    clear g1' g2'
    have HN := Lib.hid hn; have G1 := Lib.hid g1; have G2 := Lib.hid g2
    clear hn g1 g2
    go_enter Try.func104, Try.ntmps104
    go_wp2
    go_ret
    exact ⟨ret_bool (by symm; rw [decide_eq_false_iff_not]; intro e; exact HN.out (by rw [← G1.out, ← G2.out, e])), 0, rfl⟩
/-- a text's first rune -/
def headS (s : Tx) : Tx := textZ [(labS s : Int)]
set_option maxHeartbeats 1600000 in
theorem rprefix_one (s : ByteArray) (w : World) (hs : s.size ≤ 1048576) (hg : 0 ≤ lenS s) (h0 : 0 < s.size) :
    Calls Try.prog 105 #[.string s, .int .i64 1] w fun e w' => e = .returned (.string (headS s)) ∧ Below w.heap.size w w' := by
  have hr := r1runesq_any s w hs
  have hle := runesS_le s
  have hrs := rst_runes hg h0
  obtain ⟨P, hP⟩ : ∃ P, runesS s = P := ⟨_, rfl⟩
  unfold RunesQ at hr
  rw [hP] at hr hrs hle
  obtain ⟨k, hk⟩ : ∃ k, P.length = k := ⟨_, rfl⟩
  rw [hk] at hr hle
  have hk1 : 1 ≤ k := by rw [← hk, hrs]; simp
  have hp0 : P.getD 0 0 = labS s := by rw [hrs]; rfl
  have HR := Lib.hid hr; have HP0 := Lib.hid hp0; have HK := Lib.hid hk
  have hsz : k ≤ 1048576 := by omega
  have HG := Lib.hid hg
  clear hr hp0 hk hrs hP hg
  go_enter Try.func105, Try.ntmps105
  go_wp2_with fail
  refine HR.out.mono ?_
  rintro e w1 (⟨h1, a, c, rfl, h2, h3⟩ | ⟨h1, rfl, h3⟩)
  · have H3 := Lib.hid h3
    have hcc := (owns_none h2).2
    have HI : HoldsI .i32 w1 a k (intsN P) := by rw [← HK.out]; exact holdsI_own (by rw [HK.out]; exact h2)
    obtain ⟨b, o, rfl, hc⟩ := HI.at (by omega)
    have ex : (intsN P).getD 0 0 = (labS s : Int) := by
      rw [← HP0.out]
      have := HK.out
      simp [intsN, List.getD_eq_getElem?_getD, List.getElem?_eq_getElem (show 0 < P.length by omega)]
    have HT := Lib.hid (fun w2 => fun (hb : Below w1.heap.size w1 w2) (cc : Nat) => (rtext_any (some ⟨b, o, none⟩) 1 cc [(labS s : Int)] w2 (HoldsI.below (w := w1) (by
      refine ⟨rfl, fun _ => ⟨b, o, rfl, fun i hi => ?_⟩⟩
      obtain rfl : i = 0 := by omega
      have := hc 0 (by omega)
      rw [ex] at this
      exact this) hb) (by omega)))
    have HIH := Lib.hid HI
    clear h1 h2 h3 hc HI
    by_cases hk2 : 1 < k
    · have d1 : decide ((1 : Int) < (k : Int)) = true := decide_eq_true (by omega)
      have j1 : (1 : Int) ≤ (k : Int) := by omega
      go_wp2_with fail
      refine (HT.out _ (Below.refl _ _) _).mono ?_
      rintro e w2 ⟨rfl, hb⟩
      have B2 := Lib.hid (H3.out.trans (hb.mono H3.out.size))
      clear hb
      go_wp2_with fail
      go_ret
      exact ⟨rfl, B2.out⟩
    · obtain rfl : k = 1 := by omega
      go_wp2_with fail
      refine (HT.out _ (Below.refl _ _) _).mono ?_
      rintro e w2 ⟨rfl, hb⟩
      have B2 := Lib.hid (H3.out.trans (hb.mono H3.out.size))
      clear hb
      go_wp2_with fail
      go_ret
      exact ⟨rfl, B2.out⟩
  · exact absurd HG.out (by omega)
end Go.Proofs.Ytbimbgcejeeinaa
/- the document's graph in memory -/
namespace Go.Proofs.Ytbimbgcejeeinaa
open Go.RowKit
set_option linter.unusedVariables false
set_option maxRecDepth 20000
/-- a node, and where its rests and edges lie -/
structure NR where
  rests : List Tx
  ra : Option Addr
  rc : Nat
  es : List EdP
  ea : Option Addr
  ec : Nat
def nr0 : NR := ⟨[], none, 0, [], none, 0⟩
def nrV : List NR → List Value
  | [] => []
  | x :: l => .slice x.ra x.rests.length x.rc :: .slice x.ea x.es.length x.ec :: nrV l
theorem nrV_len : ∀ l : List NR, (nrV l).length = l.length * 2
  | [] => rfl
  | x :: l => by simp [nrV, nrV_len l]; omega
theorem nrV_app : ∀ k l : List NR, nrV (k ++ l) = nrV k ++ nrV l
  | [], l => rfl
  | x :: k, l => by simp [nrV, nrV_app k l]
theorem nrV_at : ∀ (l : List NR) (i : Nat), i < l.length → (nrV l)[i * 2]? = some (.slice (l.getD i nr0).ra (l.getD i nr0).rests.length (l.getD i nr0).rc) ∧ (nrV l)[i * 2 + 1]? = some (.slice (l.getD i nr0).ea (l.getD i nr0).es.length (l.getD i nr0).ec)
  | [], i, h => by simp at h
  | x :: l, 0, _ => by simp [nrV]
  | x :: l, i + 1, h => by
    have ih := nrV_at l i (by simpa using h)
    have e1 : (i + 1) * 2 = i * 2 + 1 + 1 := by omega
    rw [e1]
    simpa [nrV] using ih
def withE (x : NR) (es : List EdP) (ea : Option Addr) (ec : Nat) : NR := ⟨x.rests, x.ra, x.rc, es, ea, ec⟩
theorem nrV_set : ∀ (L : List NR) (i : Nat) (es : List EdP) (ea : Option Addr) (ec : Nat), i < L.length → (nrV L).set (i * 2 + 1) (.slice ea es.length ec) = nrV (L.set i (withE (L.getD i nr0) es ea ec))
  | [], i, _, _, _, h => by simp at h
  | x :: l, 0, es, ea, ec, _ => by simp [nrV, withE]
  | x :: l, i + 1, es, ea, ec, h => by
    have ih := nrV_set l i es ea ec (by simpa using h)
    have e1 : (i + 1) * 2 + 1 = i * 2 + 1 + 1 + 1 := by omega
    rw [e1]
    simp only [nrV, List.set_cons_succ]
    rw [ih]
    simp
theorem mem_nr {L : List NR} {i : Nat} (h : i < L.length) : L.getD i nr0 ∈ L := by rw [List.getD_eq_getElem?_getD, List.getElem?_eq_getElem h]; simp
def EdF (w : World) (F : Nat → Prop) (x : NR) : Prop := HoldsEd w x.ea x.es.length x.es ∧ ((x.ea = none → x.es.length = 0 ∧ x.ec = 0) ∧ x.es.length ≤ x.ec) ∧ ∀ fb fo, x.ea = some ⟨fb, fo, none⟩ → F fb
def ReF (w : World) (F : Nat → Prop) (x : NR) : Prop := HoldsT w x.ra x.rests.length x.rests ∧ x.rests.length ≤ 1000000 ∧ (0 < x.rests.length → ∀ fb fo, x.ra = some ⟨fb, fo, none⟩ → F fb)
/-- block g is the document's graph of these nodes; F: what the nodes' slices lie in, S: what may turn -/
structure RMid (w : World) (g : Nat) (na : Option Addr) (nc : Nat) (NL : List NR) (S F : Nat → Prop) : Prop where
  c : w.cell? ⟨g, 0, none⟩ = some (.slice na NL.length nc)
  f : ∀ i, w.frozen? ⟨g, i, none⟩ = false
  o : w.ownsRow 0 124 2 (.slice na NL.length nc) NL.length (nrV NL)
  e : ∀ x ∈ NL, EdF w F x
  r : ∀ x ∈ NL, ReF w F x
  sg : S g
  sn : ∀ q, na = some ⟨q, 0, none⟩ → S q ∧ q ≠ g
  lt : ∀ k, S k → k < w.heap.size
  fl : ∀ k, F k → ¬ S k ∧ k < w.heap.size
theorem holdsEd_turn {w w' : World} {a : Option Addr} {n : Nat} {ks : List EdP} {T : Nat → Prop} (h : HoldsEd w a n ks) (t : Turn T w w') (hF : ∀ fb fo, a = some ⟨fb, fo, none⟩ → ¬ T fb ∧ fb < w.heap.size) : HoldsEd w' a n ks :=
  holdsEd_blocks h (fun fb fo e => t.block fb (hF fb fo e).2 (hF fb fo e).1)
theorem RMid.turn {w w' : World} {g : Nat} {na : Option Addr} {nc : Nat} {NL : List NR} {S F T : Nat → Prop} (h : RMid w g na nc NL S F) (t : Turn T w w') (hT : ∀ k, T k → ¬ S k ∧ ¬ F k) : RMid w' g na nc NL S F := by
  have lg := h.lt g h.sg
  have ng : ¬ T g := fun e => (hT g e).1 h.sg
  exact ⟨(t.cell lg ng).trans h.c, fun i => (t.frozen lg ng).trans (h.f i), gowns_block h.o (fun q hq => t.block q (h.lt q (h.sn q hq).1) (fun e => (hT q e).1 (h.sn q hq).1)),
    fun x hx => ⟨holdsEd_turn (h.e x hx).1 t (fun fb fo e => ⟨fun e2 => (hT fb e2).2 ((h.e x hx).2.2 fb fo e), (h.fl fb ((h.e x hx).2.2 fb fo e)).2⟩), (h.e x hx).2⟩,
    fun x hx => ⟨holdsT_turn (h.r x hx).1 t (fun h0 fb fo e e2 => (hT fb e2).2 ((h.r x hx).2.2 h0 fb fo e)), (h.r x hx).2⟩,
    h.sg, h.sn, fun k hk => Nat.lt_of_lt_of_le (h.lt k hk) t.size, fun k hk => ⟨(h.fl k hk).1, Nat.lt_of_lt_of_le (h.fl k hk).2 t.size⟩⟩
theorem RMid.at {w : World} {g : Nat} {na : Option Addr} {nc : Nat} {NL : List NR} {S F : Nat → Prop} (h : RMid w g na nc NL S F) {i : Nat} (hi : i < NL.length) : ∃ q, na = some ⟨q, 0, none⟩ ∧ w.cell? ⟨q, i * 2, none⟩ = some (.slice (NL.getD i nr0).ra (NL.getD i nr0).rests.length (NL.getD i nr0).rc) ∧ w.cell? ⟨q, i * 2 + 1, none⟩ = some (.slice (NL.getD i nr0).ea (NL.getD i nr0).es.length (NL.getD i nr0).ec) := by
  have o := h.o
  obtain ⟨q, cap', hv⟩ := Joins.ownsRow_form o (by omega)
  simp only [Value.slice.injEq] at hv
  obtain ⟨hv, -, -⟩ := hv
  subst hv
  obtain ⟨v0, v1⟩ := nrV_at NL i hi
  exact ⟨q, rfl, (o.cellAt (i * 2) (by omega)).trans v0, (o.cellAt (i * 2 + 1) (by omega)).trans v1⟩
/-- one node more -/
theorem RMid.grow {w w6 : World} {g q cap : Nat} {na : Option Addr} {nc : Nat} {NL : List NR} {S F : Nat → Prop} {o : Obj} {s : List Tx} {ra : Option Addr} {rc : Nat} (h : RMid w g na nc NL S F)
    (hs : HoldsT w ra s.length s) (hsl : s.length ≤ 1000000) (hsF : 0 < s.length → ∀ fb fo, ra = some ⟨fb, fo, none⟩ → F fb)
    (own : w6.ownsRow 0 124 2 (.slice (some ⟨q, 0, none⟩) (NL.length + 1) cap) (NL.length + 1) (nrV NL ++ [.slice ra s.length rc, .slice none 0 0]))
    (hg : (w.alloc o).grownBy w6 (Value.slice na NL.length nc).ownBlock) (hat : (Value.slice na NL.length nc).ownBlock = some q ∨ q = (w.alloc o).heap.size) (hlt : q < w6.heap.size) :
    RMid (w6.setCell ⟨g, 0, none⟩ (.slice (some ⟨q, 0, none⟩) (NL.length + 1) cap)) g (some ⟨q, 0, none⟩) cap (NL ++ [⟨s, ra, rc, [], none, 0⟩]) (fun k => S k ∨ k = q) F ∧ Turn S w (w6.setCell ⟨g, 0, none⟩ (.slice (some ⟨q, 0, none⟩) (NL.length + 1) cap)) ∧ (S q ∨ w.heap.size ≤ q) := by
  have hza : (w.alloc o).heap.size = w.heap.size + 1 := by simp
  have hz6 := hg.size
  have hlb := h.lt g h.sg
  have old : ∀ k, k < w.heap.size → (∀ r, na = some ⟨r, 0, none⟩ → k ≠ r) → w6.heap[k]? = w.heap[k]? := fun k hk hn =>
    (hg.block k (by omega) (fun e => hn k (gown_at h.o e) rfl)).trans (Below.heap_alloc _ _ _ (by omega))
  have ob := old g hlb (fun r e hq => (h.sn r e).2 hq.symm)
  have hwhere : na = some ⟨q, 0, none⟩ ∨ w.heap.size ≤ q := by
    rcases hat with e | e
    · exact Or.inl (gown_at h.o e.symm)
    · exact Or.inr (by omega)
  have gq : q ≠ g := by
    rcases hwhere with e | e
    · exact (h.sn q e).2
    · omega
  have sz : (w6.setCell ⟨g, 0, none⟩ (.slice (some ⟨q, 0, none⟩) (NL.length + 1) cap)).heap.size = w6.heap.size := by simp [World.setCell]
  have t : Turn (fun k => k = g ∨ na = some ⟨k, 0, none⟩) w (w6.setCell ⟨g, 0, none⟩ (.slice (some ⟨q, 0, none⟩) (NL.length + 1) cap)) := by
    refine Turn.trans ?_ (Turn.setCell (Or.inl rfl))
    exact ⟨hg.os, hg.tape, hg.output, by omega, fun k hk hn => old k hk (fun r e h2 => hn (Or.inr (by rw [h2]; exact e)))⟩
  have tS : ∀ k, (k = g ∨ na = some ⟨k, 0, none⟩) → S k := fun k hk => by
    rcases hk with rfl | e
    · exact h.sg
    · exact (h.sn k e).1
  have hlen : (NL ++ [(⟨s, ra, rc, [], none, 0⟩ : NR)]).length = NL.length + 1 := by simp
  have hkv : nrV (NL ++ [⟨s, ra, rc, [], none, 0⟩]) = nrV NL ++ [.slice ra s.length rc, .slice none 0 0] := by rw [nrV_app]; rfl
  refine ⟨⟨?_, fun i => ?_, ?_, fun x hx => ?_, fun x hx => ?_, Or.inl h.sg, fun r hr => ?_, fun k hk => ?_, fun k hk => ⟨fun e => ?_, ?_⟩⟩, t.mono tS, ?_⟩
  · rw [hlen]; exact cset_at ((World.cell?_of_block (w := w) ob).trans h.c)
  · rw [fset_any, World.frozen?_of_block (w := w) ob]; exact h.f i
  · rw [hlen, hkv]
    exact gowns_block own (fun r hr => by injection hr with hr; injection hr with hr; subst hr; exact gheap_far gq)
  · rcases List.mem_append.1 hx with hx | hx
    · obtain ⟨y1, y2, y3⟩ := h.e x hx
      exact ⟨holdsEd_turn y1 t (fun fb fo e => ⟨fun e2 => (h.fl fb (y3 fb fo e)).1 (tS fb e2), (h.fl fb (y3 fb fo e)).2⟩), y2, y3⟩
    · simp only [List.mem_singleton] at hx
      subst hx
      exact ⟨HoldsEd.nil _ _, ⟨fun _ => ⟨rfl, rfl⟩, Nat.le_refl _⟩, fun fb fo e => by cases e⟩
  · rcases List.mem_append.1 hx with hx | hx
    · obtain ⟨y1, y2⟩ := h.r x hx
      exact ⟨holdsT_turn y1 t (fun h0 fb fo e e2 => (h.fl fb (y2.2 h0 fb fo e)).1 (tS fb e2)), y2⟩
    · simp only [List.mem_singleton] at hx
      subst hx
      exact ⟨holdsT_turn hs t (fun h0 fb fo e e2 => (h.fl fb (hsF h0 fb fo e)).1 (tS fb e2)), hsl, hsF⟩
  · injection hr with hr; injection hr with hr; subst hr
    exact ⟨Or.inr rfl, gq⟩
  · rw [sz]
    rcases hk with hk | hk
    · have := h.lt k hk; omega
    · rw [hk]; exact hlt
  · rcases e with e | e
    · exact (h.fl k hk).1 e
    · rcases hwhere with e2 | e2
      · exact (h.fl k hk).1 (by rw [e]; exact (h.sn q e2).1)
      · have := (h.fl k hk).2; omega
  · rw [sz]; have := (h.fl k hk).2; omega
  · rcases hwhere with e | e
    · exact Or.inl (h.sn q e).1
    · exact Or.inr e
/-- a node's edges are laid in their place -/
theorem RMid.put {w : World} {g q nc : Nat} {NL : List NR} {S F : Nat → Prop} (h : RMid w g (some ⟨q, 0, none⟩) nc NL S F) (i : Nat) (hi : i < NL.length) (es : List EdP) (ea : Option Addr) (ec : Nat) (h1 : HoldsEd w ea es.length es) (h3 : (ea = none → es.length = 0 ∧ ec = 0) ∧ es.length ≤ ec) (h4 : ∀ fb fo, ea = some ⟨fb, fo, none⟩ → ¬ S fb ∧ fb < w.heap.size) :
    RMid (w.setCell ⟨q, i * 2 + 1, none⟩ (.slice ea es.length ec)) g (some ⟨q, 0, none⟩) nc (NL.set i (withE (NL.getD i nr0) es ea ec)) S (fun k => F k ∨ ∃ fo, ea = some ⟨k, fo, none⟩) ∧ Turn (fun k => k = q) w (w.setCell ⟨q, i * 2 + 1, none⟩ (.slice ea es.length ec)) := by
  obtain ⟨s1, s2⟩ := h.sn q rfl
  have t : Turn (fun k => k = q) w (w.setCell ⟨q, i * 2 + 1, none⟩ (.slice ea es.length ec)) := Turn.setCell rfl
  have sz : (w.setCell ⟨q, i * 2 + 1, none⟩ (.slice ea es.length ec)).heap.size = w.heap.size := by simp [World.setCell]
  have own := (h.o.stored (i * 2 + 1) (.slice ea es.length ec)).1
  rw [nrV_set NL i es ea ec hi] at own
  have lg := h.lt g h.sg
  have ng : ¬ g = q := fun e => s2 e.symm
  have hE : ∀ x ∈ NL, EdF (w.setCell ⟨q, i * 2 + 1, none⟩ (.slice ea es.length ec)) (fun k => F k ∨ ∃ fo, ea = some ⟨k, fo, none⟩) x := fun x hx => by
    obtain ⟨y1, y2, y3⟩ := h.e x hx
    exact ⟨holdsEd_turn y1 t (fun fb fo e => ⟨fun e2 => (h.fl fb (y3 fb fo e)).1 (by rw [e2]; exact s1), (h.fl fb (y3 fb fo e)).2⟩), y2, fun fb fo e => Or.inl (y3 fb fo e)⟩
  have hR : ∀ x ∈ NL, ReF (w.setCell ⟨q, i * 2 + 1, none⟩ (.slice ea es.length ec)) (fun k => F k ∨ ∃ fo, ea = some ⟨k, fo, none⟩) x := fun x hx => by
    obtain ⟨y1, y2⟩ := h.r x hx
    exact ⟨holdsT_turn y1 t (fun h0 fb fo e e2 => (h.fl fb (y2.2 h0 fb fo e)).1 (by rw [e2]; exact s1)), y2.1, fun h0 fb fo e => Or.inl (y2.2 h0 fb fo e)⟩
  refine ⟨⟨?_, fun k => (t.frozen lg ng).trans (h.f k), ?_, fun x hx => ?_, fun x hx => ?_, h.sg, h.sn, fun k hk => by rw [sz]; exact h.lt k hk, fun k hk => ?_⟩, t⟩
  · rw [List.length_set]; exact (t.cell lg ng).trans h.c
  · rw [List.length_set]; exact own
  · rcases List.mem_or_eq_of_mem_set hx with hx | rfl
    · exact hE x hx
    · exact ⟨holdsEd_turn h1 t (fun fb fo e => ⟨fun e2 => (h4 fb fo e).1 (by rw [e2]; exact s1), (h4 fb fo e).2⟩), h3, fun fb fo e => Or.inr ⟨fo, e⟩⟩
  · rcases List.mem_or_eq_of_mem_set hx with hx | rfl
    · exact hR x hx
    · exact hR (NL.getD i nr0) (mem_nr hi)
  · rw [sz]
    rcases hk with hk | ⟨fo, hk⟩
    · exact h.fl k hk
    · exact h4 k fo hk
theorem RMid.len {w : World} {g : Nat} {na : Option Addr} {nc : Nat} {NL : List NR} {S F : Nat → Prop} {st : List GN} (h : RMid w g na nc NL S F) (eq : NL.map (fun x => (x.rests, x.es)) = st.map (fun x => (x.rests, x.edges))) : NL.length = st.length ∧ ∀ k, k < st.length → (NL.getD k nr0).rests = (st.getD k gn0).rests ∧ (NL.getD k nr0).es = (st.getD k gn0).edges := by
  have hl : NL.length = st.length := by have := congrArg List.length eq; simpa using this
  refine ⟨hl, fun k hk => ?_⟩
  have h2 := congrArg (fun l => l[k]?) eq
  simp only [List.getElem?_map, List.getElem?_eq_getElem (show k < NL.length by omega), List.getElem?_eq_getElem hk, Option.map_some] at h2
  injection h2 with h2
  rw [List.getD_eq_getElem?_getD, List.getD_eq_getElem?_getD, List.getElem?_eq_getElem (show k < NL.length by omega), List.getElem?_eq_getElem hk]
  injection h2 with h3 h4
  exact ⟨h3, h4⟩
/-- more is known to stay -/
theorem RMid.wide {w : World} {g : Nat} {na : Option Addr} {nc : Nat} {NL : List NR} {S F G : Nat → Prop} (h : RMid w g na nc NL S F) (hF : ∀ k, F k → G k) (hG : ∀ k, G k → ¬ S k ∧ k < w.heap.size) : RMid w g na nc NL S G :=
  ⟨h.c, h.f, h.o, fun x hx => ⟨(h.e x hx).1, (h.e x hx).2.1, fun fb fo e => hF fb ((h.e x hx).2.2 fb fo e)⟩, fun x hx => ⟨(h.r x hx).1, (h.r x hx).2.1, fun h0 fb fo e => hF fb ((h.r x hx).2.2 h0 fb fo e)⟩, h.sg, h.sn, h.lt, hG⟩
def nrP (x : NR) : List Tx × List EdP := (x.rests, x.es)
def grP (x : GN) : List Tx × List EdP := (x.rests, x.edges)
def RQ (g : Nat) (st : List GN) (w : World) (S F : Nat → Prop) : Prop := ∃ na nc NL, RMid w g na nc NL S F ∧ NL.map nrP = st.map grP
theorem RQ.turn {g : Nat} {st : List GN} {w w' : World} {S F T : Nat → Prop} (h : RQ g st w S F) (t : Turn T w w') (hT : ∀ k, T k → ¬ S k ∧ ¬ F k) : RQ g st w' S F := by
  obtain ⟨na, nc, NL, m, e⟩ := h; exact ⟨na, nc, NL, m.turn t hT, e⟩
theorem RQ.below {g : Nat} {st : List GN} {w w' : World} {S F : Nat → Prop} (h : RQ g st w S F) (hb : Below w.heap.size w w') : RQ g st w' S F :=
  h.turn (T := fun _ => False) (Turn.of_below hb) (fun k hk => hk.elim)
theorem RQ.lt {g : Nat} {st : List GN} {w : World} {S F : Nat → Prop} (h : RQ g st w S F) : ∀ k, S k → k < w.heap.size := by obtain ⟨na, nc, NL, m, e⟩ := h; exact m.lt
theorem RQ.fl {g : Nat} {st : List GN} {w : World} {S F : Nat → Prop} (h : RQ g st w S F) : ∀ k, F k → ¬ S k ∧ k < w.heap.size := by obtain ⟨na, nc, NL, m, e⟩ := h; exact m.fl
theorem RQ.wide {g : Nat} {st : List GN} {w : World} {S F G : Nat → Prop} (h : RQ g st w S F) (hF : ∀ k, F k → G k) (hG : ∀ k, G k → ¬ S k ∧ k < w.heap.size) : RQ g st w S G := by
  obtain ⟨na, nc, NL, m, e⟩ := h; exact ⟨na, nc, NL, m.wide hF hG, e⟩
/-- what adding a list does -/
def PR (g : Nat) (st : List GN) (w : World) (S F : Nat → Prop) (w' : World) : Prop := ∃ S' F', RQ g st w' S' F' ∧ (∀ k, S' k → S k ∨ w.heap.size ≤ k) ∧ (∀ k, F' k → F k ∨ w.heap.size ≤ k) ∧ (∀ k, F k → F' k) ∧ Turn S w w'
/-- what the loop goes by -/
structure RK (g : Nat) (W : World) (S F : Nat → Prop) (st1 : List GN) (ea : Option Addr) (ec : Nat) (es : List EdP) (S1 F1 : Nat → Prop) (w : World) : Prop where
  q : RQ g st1 w S1 F1
  sub : ∀ k, S1 k → S k ∨ W.heap.size ≤ k
  fsub : ∀ k, F1 k → F k ∨ W.heap.size ≤ k
  fup : ∀ k, F k → F1 k
  t : Turn S W w
  o : w.ownsRow W.heap.size 115 2 (.slice ea es.length ec) es.length (edsV es)
  ne : ∀ k, ea = some ⟨k, 0, none⟩ → ¬ S1 k ∧ ¬ F1 k
theorem RK.more {g : Nat} {W : World} {S F : Nat → Prop} {st1 : List GN} {ea : Option Addr} {ec : Nat} {es : List EdP} {S1 F1 : Nat → Prop} {w w' : World} (h : RK g W S F st1 ea ec es S1 F1 w) (hb : Below w.heap.size w w') : RK g W S F st1 ea ec es S1 F1 w' :=
  ⟨h.q.below hb, h.sub, h.fsub, h.fup, h.t.trans (Turn.of_below hb), owns_below h.o hb, h.ne⟩
/-- a block of rests more -/
theorem RK.rows {g : Nat} {W : World} {S F : Nat → Prop} {st1 : List GN} {ea : Option Addr} {ec : Nat} {es : List EdP} {S1 F1 : Nat → Prop} {w : World} (h : RK g W S F st1 ea ec es S1 F1 w) (L : Nat → Prop) (hL : ∀ k, L k → ¬ S1 k ∧ k < w.heap.size ∧ W.heap.size ≤ k ∧ ea ≠ some ⟨k, 0, none⟩) : RK g W S F st1 ea ec es S1 (fun k => F1 k ∨ L k) w :=
  ⟨h.q.wide (fun k hk => Or.inl hk) (fun k hk => hk.elim (h.q.fl k) (fun x => ⟨(hL k x).1, (hL k x).2.1⟩)), h.sub, fun k hk => hk.elim (h.fsub k) (fun x => Or.inr (hL k x).2.2.1), fun k hk => Or.inl (h.fup k hk), h.t, h.o, fun k e => ⟨(h.ne k e).1, fun hk => hk.elim (h.ne k e).2 (fun x => (hL k x).2.2.2 e)⟩⟩
/-- behind a call that adds nodes -/
theorem RK.step {g : Nat} {W : World} {S F : Nat → Prop} {st1 st2 : List GN} {ea : Option Addr} {ec : Nat} {es : List EdP} {S1 F1 : Nat → Prop} {w w' : World} (h : RK g W S F st1 ea ec es S1 F1 w) (k : PR g st2 w S1 F1 w') : ∃ S2 F2, RK g W S F st2 ea ec es S2 F2 w' := by
  obtain ⟨S2, F2, q2, s2, f2, u2, t2⟩ := k
  have hz := h.t.size
  refine ⟨S2, F2, q2, fun k hk => ?_, fun k hk => ?_, fun k hk => u2 k (h.fup k hk), h.t.trans' t2 (fun i hi => h.sub i hi), gowns_block h.o (fun r hr => t2.block r (h.o.lt r (by rw [hr]; rfl)).2 (h.ne r hr).1), fun k hk => ⟨fun hk2 => ?_, fun hk2 => ?_⟩⟩
  · rcases s2 k hk with x | x
    · exact h.sub k x
    · exact Or.inr (by omega)
  · rcases f2 k hk with x | x
    · exact h.fsub k x
    · exact Or.inr (by omega)
  · rcases s2 k hk2 with x | x
    · exact (h.ne k hk).1 x
    · have := (h.o.lt k (by rw [hk]; rfl)).2; omega
  · rcases f2 k hk2 with x | x
    · exact (h.ne k hk).2 x
    · have := (h.o.lt k (by rw [hk]; rfl)).2; omega
/-- behind an edge more -/
theorem RK.edge {g : Nat} {W : World} {S F : Nat → Prop} {q cap : Nat} {st1 : List GN} {ea : Option Addr} {ec : Nat} {es : List EdP} {S1 F1 : Nat → Prop} {w w6 : World} {o : Obj} {x : EdP} (h : RK g W S F st1 ea ec es S1 F1 w)
    (own : w6.ownsRow W.heap.size 115 2 (.slice (some ⟨q, 0, none⟩) (es.length + 1) cap) (es.length + 1) (edsV es ++ cellsEd x))
    (hg : (w.alloc o).grownBy w6 (Value.slice ea es.length ec).ownBlock) (hat : (Value.slice ea es.length ec).ownBlock = some q ∨ q = (w.alloc o).heap.size) :
    RK g W S F st1 (some ⟨q, 0, none⟩) cap (es ++ [x]) S1 F1 w6 ∧ Turn (fun k => ea = some ⟨k, 0, none⟩) w w6 := by
  have hza : (w.alloc o).heap.size = w.heap.size + 1 := by simp
  have hz6 := hg.size
  have old : ∀ k, k < w.heap.size → ea ≠ some ⟨k, 0, none⟩ → w6.heap[k]? = w.heap[k]? := fun k hk hn =>
    (hg.block k (by omega) (fun e => hn (gown_at h.o e))).trans (Below.heap_alloc _ _ _ (by omega))
  have t1 : Turn (fun k => ea = some ⟨k, 0, none⟩) w w6 := ⟨hg.os, hg.tape, hg.output, by omega, fun k hk hn => old k hk hn⟩
  refine ⟨⟨h.q.turn t1 (fun k hk => h.ne k hk), h.sub, h.fsub, h.fup, h.t.trans' t1 (fun k hk => Or.inr (h.o.lt k (by rw [hk]; rfl)).1), ?_, fun k hk => ?_⟩, t1⟩
  · rw [List.length_append, List.length_singleton, edsV_snoc]; exact own
  · injection hk with hk; injection hk with hk; subst hk
    rcases hat with e | e
    · exact h.ne q (gown_at h.o e.symm)
    · exact ⟨fun hk => by have := h.q.lt q hk; omega, fun hk => by have := (h.q.fl q hk).2; omega⟩
/-- the place where the edges are to lie -/
theorem RK.target {g : Nat} {W : World} {S F : Nat → Prop} {st1 : List GN} {ea : Option Addr} {ec : Nat} {es : List EdP} {S1 F1 : Nat → Prop} {w : World} (h : RK g W S F st1 ea ec es S1 F1 w) (i : Nat) (hi : i < st1.length) (s : List Tx) (hr : (st1.getD i gn0).rests = s) (b : Bool) :
    ∃ nc q, w.cell? ⟨g, 0, none⟩ = some (.slice (some ⟨q, 0, none⟩) st1.length nc) ∧ (∃ v, w.cell? ⟨q, i * 2 + 1, none⟩ = some v) ∧ (∀ k, w.frozen? ⟨q, k, none⟩ = false) ∧
      PR g (st1.set i ⟨s, b, es⟩) W S F (w.setCell ⟨q, i * 2 + 1, none⟩ (.slice ea es.length ec)) := by
  obtain ⟨na, nc, NL, B, eq⟩ := h.q
  have hnl : NL.length = st1.length := by have := congrArg List.length eq; simpa using this
  obtain ⟨q, rfl, h0, h1⟩ := B.at (i := i) (by omega)
  have sq := B.sn q rfl
  have hea : ∀ fb fo, ea = some ⟨fb, fo, none⟩ → ¬ S1 fb ∧ fb < w.heap.size ∧ W.heap.size ≤ fb := fun fb fo e => by
    have hb := own_blockG h.o e
    rcases Joins.ownsRow_forms h.o with ⟨e1, _⟩ | ⟨g2, cap, e1⟩
    · injection e1 with e2; rw [e] at e2; cases e2
    · injection e1 with e2; rw [e] at e2; injection e2 with e2; injection e2 with e2 e3; subst e2; subst e3
      exact ⟨(h.ne _ e).1, hb.2, hb.1⟩
  obtain ⟨P1, P2⟩ := B.put i (by omega) es ea ec (HoldsEd.own h.o) (owns_none h.o) (fun fb fo e => ⟨(hea fb fo e).1, (hea fb fo e).2.1⟩)
  have hx : nrP (NL.getD i nr0) = grP (st1.getD i gn0) := by
    have h2 := congrArg (fun l => l[i]?) eq
    simp only [List.getElem?_map, List.getElem?_eq_getElem (show i < NL.length by omega), List.getElem?_eq_getElem hi, Option.map_some] at h2
    injection h2 with h2
    rw [List.getD_eq_getElem?_getD, List.getD_eq_getElem?_getD, List.getElem?_eq_getElem (show i < NL.length by omega), List.getElem?_eq_getElem hi]
    exact h2
  refine ⟨nc, q, by rw [← hnl]; exact B.c, ⟨_, h1⟩, fun k => B.o.frozenAt k, _, _, ⟨_, nc, _, P1, ?_⟩, h.sub, fun k hk => ?_, fun k hk => Or.inl (h.fup k hk), h.t.trans' P2 (fun k hk => by rw [hk]; exact h.sub q sq.1)⟩
  · rw [List.map_set, List.map_set, eq]
    congr 1
    unfold nrP grP at hx
    injection hx with hx1 hx2
    show ((NL.getD i nr0).rests, es) = (s, es)
    rw [hx1, hr]
  · rcases hk with hk | ⟨fo, hk⟩
    · exact h.fsub k hk
    · exact Or.inr (hea k fo hk).2.2
end Go.Proofs.Ytbimbgcejeeinaa
/- graph: from a text on, in pieces: plain -/
namespace Go.Proofs.Ytbimbgcejeeinaa
open Go.RowKit
set_option linter.unusedVariables false
set_option maxRecDepth 20000
def onS (ts : List Tx) (lo : Tx) : List Tx := ts.filter (fun t => !decide (cmpS t lo < 0))
theorem fromL_on (ts : List Tx) (lo : Tx) (most : Int) : fromL ts lo most = (onS ts lo).take most.toNat := rfl
theorem onS_len (ts : List Tx) (lo : Tx) : (onS ts lo).length ≤ ts.length := List.length_filter_le _ _
theorem onS_sorted {ts : List Tx} (h : SortedS ts) (lo : Tx) : SortedS (onS ts lo) := List.Pairwise.sublist List.filter_sublist h
theorem on_last {ts : List Tx} (h : SortedS ts) (lo : Tx) (i : Nat) (hi : i < (onS ts lo).length) : onS ts ((onS ts lo).getD i ByteArray.empty) = (onS ts lo).drop i := by
  obtain ⟨F, hF⟩ : ∃ F, onS ts lo = F := ⟨_, rfl⟩
  have hs := onS_sorted h lo
  rw [hF] at hi hs ⊢
  have hm : F.getD i ByteArray.empty ∈ F := getD_tx hi
  have hge : ¬ cmpS (F.getD i ByteArray.empty) lo < 0 := by
    rw [← hF] at hm ⊢
    have := (List.mem_filter.1 hm).2
    simpa using this
  obtain ⟨y, hy⟩ : ∃ y, F.getD i ByteArray.empty = y := ⟨_, rfl⟩
  rw [hy] at hge ⊢
  have e1 : onS ts y = F.filter (fun t => !decide (cmpS t y < 0)) := by
    rw [← hF]
    unfold onS
    rw [List.filter_filter]
    refine List.filter_congr fun t ht => ?_
    by_cases h1 : cmpS t y < 0
    · simp [h1]
    · have h2 : ¬ cmpS t lo < 0 := fun h2 => by
        have h3 : cmpS lo y < 0 ∨ lo = y := by
          rcases cmpS_bd y lo with e | e | e
          · omega
          · exact Or.inr (cmpS_zero.1 e).symm
          · left; rw [cmpS_swap]; omega
        rcases h3 with h3 | h3
        · exact h1 (cmpS_trans h2 h3)
        · exact h1 (h3 ▸ h2)
      simp [h1, h2]
  rw [e1]
  conv => lhs; rw [← List.take_append_drop i F]
  rw [List.filter_append]
  have d0 : F.drop i = y :: F.drop (i + 1) := by
    rw [List.drop_eq_getElem_cons hi, ← hy, List.getD_eq_getElem?_getD, List.getElem?_eq_getElem hi]; rfl
  have hp : SortedS (F.take i ++ F.drop i) := by rw [List.take_append_drop]; exact hs
  obtain ⟨-, hp2, hp3⟩ := List.pairwise_append.1 hp
  have e2 : (F.take i).filter (fun t => !decide (cmpS t y < 0)) = [] := by
    refine List.filter_eq_nil_iff.2 fun t ht => ?_
    have := hp3 t ht y (by rw [d0]; simp)
    simp [this]
  have e3 : (F.drop i).filter (fun t => !decide (cmpS t y < 0)) = F.drop i := by
    refine List.filter_eq_self.2 fun t ht => ?_
    rw [d0] at ht hp2
    rcases List.mem_cons.1 ht with rfl | ht
    · simp [cmpS_irrefl]
    · have := cmpS_asymm ((List.pairwise_cons.1 hp2).1 t ht)
      simpa using this
  rw [e2, e3, List.nil_append]
end Go.Proofs.Ytbimbgcejeeinaa
/- the first rune's text, plain -/
namespace Go.Proofs.Ytbimbgcejeeinaa
open Go.RowKit
set_option linter.unusedVariables false
set_option maxRecDepth 20000
theorem head_rst {t : Tx} (h : 0 ≤ lenS t) (h0 : 0 < t.size) : headS t ++ rstS t = t := text_rst h h0
theorem head_size {t : Tx} (h : 0 ≤ lenS t) (h0 : 0 < t.size) : (headS t).size = (Utf8.decode t 0).2 ∧ (headS t).size ≤ t.size ∧ 0 < (headS t).size := by
  have h1 := congrArg ByteArray.size (head_rst h h0)
  rw [ByteArray.size_append] at h1
  have h2 := rst_size h h0
  have h3 := (good_first h h0).2.1
  have h4 := decode_width t 0 h0
  omega
theorem head_cut {t : Tx} (h : 0 ≤ lenS t) (h0 : 0 < t.size) : t.extract (headS t).size t.size = rstS t := by rw [(head_size h h0).1]; rfl
theorem head_byte {t : Tx} (h : 0 ≤ lenS t) (h0 : 0 < t.size) (i : Nat) (hi : i < (headS t).size) : byteS t i = byteS (headS t) i := by
  conv => lhs; rw [← head_rst h h0]
  exact byteS_left _ _ _ hi
theorem head_lab {s t : Tx} (hs : 0 ≤ lenS s) (ht : 0 ≤ lenS t) (s0 : 0 < s.size) (t0 : 0 < t.size) : headS s = headS t ↔ labS s = labS t := by
  constructor
  · intro e
    have e1 := (ue_read_well s 0 s0 (good_first hs s0).1).1
    have e2 := (ue_read_well t 0 t0 (good_first ht t0).1).1
    have w1 := (head_size hs s0).1
    have w2 := (head_size ht t0).1
    have b : ∀ i, i < (Utf8.decode s 0).2 → byteS s i = byteS t i := fun i hi => by
      rw [head_byte hs s0 i (by omega), head_byte ht t0 i (by rw [← e]; omega), e]
    have ww : (Utf8.decode s 0).2 = (Utf8.decode t 0).2 := by rw [← w1, ← w2, e]
    unfold labS
    generalize (Utf8.decode s 0).1 = r1 at *
    generalize (Utf8.decode t 0).1 = r2 at *
    generalize (Utf8.decode s 0).2 = v1 at *
    generalize (Utf8.decode t 0).2 = v2 at *
    subst ww
    have b0 := b 0; have b1 := b 1; have b2 := b 2; have b3 := b 3
    simp only [Nat.zero_add] at e1 e2
    unfold Enc at e1 e2
    rcases e1 with ⟨rfl, p0, p⟩ | ⟨rfl, p0, p1, p⟩ | ⟨rfl, p0, p1, p2, p⟩ | ⟨rfl, p0, p1, p2, p3, p⟩
    · have := b0 (by omega)
      omega
    · have := b0 (by omega); have := b1 (by omega)
      omega
    · have := b0 (by omega); have := b1 (by omega); have := b2 (by omega)
      omega
    · have := b0 (by omega); have := b1 (by omega); have := b2 (by omega); have := b3 (by omega)
      omega
  · intro e
    unfold headS; rw [e]
theorem bod_same {l : List Tx} (h : ∀ t ∈ l, 0 < t.size) : bodS l = l := by
  unfold bodS finS
  cases l with
  | nil => rfl
  | cons a l =>
    have h1 := h a (by simp)
    have h2 : a ≠ (⟨#[]⟩ : ByteArray) := fun e => by rw [e] at h1; exact absurd h1 (by decide)
    simp [h2]
theorem bod_skip (l : List Tx) : bodS ((⟨#[]⟩ : ByteArray) :: l) = l := by
  unfold bodS finS; simp
/-- the run of one first rune -/
def runL (l : List Tx) : List Tx := l.takeWhile (fun t => decide (labS t = labS (l.getD 0 ByteArray.empty)))
theorem run_fol {l : List Tx} (h0 : l ≠ []) : (folS l).1 = labS (l.getD 0 ByteArray.empty) ∧ (folS l).2 = (runL l).map rstS ∧ (runL l).length = (folS l).2.length ∧ runL l = l.take (runL l).length := by
  cases l with
  | nil => exact absurd rfl h0
  | cons a l =>
    refine ⟨rfl, rfl, ?_, ?_⟩
    · show (runL (a :: l)).length = ((runL (a :: l)).map rstS).length
      rw [List.length_map]
    · exact (List.prefix_iff_eq_take.1 (List.takeWhile_prefix _))
theorem run_in {l : List Tx} {j : Nat} (hj : j < (runL l).length) : labS (l.getD j ByteArray.empty) = labS (l.getD 0 ByteArray.empty) ∧ j < l.length := by
  have hp : runL l <+: l := List.takeWhile_prefix _
  have hl := hp.length_le
  have h1 : (runL l)[j] ∈ runL l := List.getElem_mem hj
  have h2 := mem_tw (p := fun t => decide (labS t = labS (l.getD 0 ByteArray.empty))) h1
  have h3 : (runL l)[j] = l[j] := hp.getElem hj
  refine ⟨?_, by omega⟩
  rw [List.getD_eq_getElem?_getD, List.getElem?_eq_getElem (show j < l.length by omega)]
  rw [h3] at h2
  exact of_decide_eq_true h2
theorem run_end {l : List Tx} (hj : (runL l).length < l.length) : labS (l.getD (runL l).length ByteArray.empty) ≠ labS (l.getD 0 ByteArray.empty) := by
  have h1 := drop_tw (fun t => decide (labS t = labS (l.getD 0 ByteArray.empty))) l
  have h2 : l.drop (runL l).length = l.getD (runL l).length ByteArray.empty :: l.drop ((runL l).length + 1) := by
    rw [List.drop_eq_getElem_cons hj, List.getD_eq_getElem?_getD, List.getElem?_eq_getElem hj]; rfl
  unfold runL at h2
  rw [h1] at h2
  have h3 := dw_first _ _ _ _ h2
  exact of_decide_eq_false h3
end Go.Proofs.Ytbimbgcejeeinaa
/- graph: a list that grows beside rows that stay -/
namespace Go.Proofs.Ytbimbgcejeeinaa
open Go.RowKit
set_option linter.unusedVariables false
set_option maxRecDepth 20000
/-- a list of texts of the call's own; the blocks K are none of its -/
structure FS (B : Nat) (w0 : World) (K : Nat → Prop) (oa : Option Addr) (oc : Nat) (out : List Tx) (w : World) : Prop where
  o : w.ownsRow B 9 1 (.slice oa out.length oc) out.length (strsV out)
  no : ∀ q, oa = some ⟨q, 0, none⟩ → ¬ K q
  kl : ∀ k, K k → k < w.heap.size
  b : Below B w0 w
  bl : B ≤ w.heap.size
theorem FS.more {B : Nat} {w0 : World} {K : Nat → Prop} {oa : Option Addr} {oc : Nat} {out : List Tx} {w w' : World} (h : FS B w0 K oa oc out w) (hb : Below w.heap.size w w') : FS B w0 K oa oc out w' :=
  ⟨owns_below h.o hb, h.no, fun k hk => Nat.lt_of_lt_of_le (h.kl k hk) hb.size, h.b.trans (hb.mono h.bl), Nat.le_trans h.bl hb.size⟩
/-- rows made since stay too -/
theorem FS.keep {B : Nat} {w0 : World} {K L : Nat → Prop} {oa : Option Addr} {oc : Nat} {out : List Tx} {w : World} (h : FS B w0 K oa oc out w) (h1 : ∀ q, oa = some ⟨q, 0, none⟩ → ¬ L q) (h2 : ∀ k, L k → k < w.heap.size) : FS B w0 (fun k => K k ∨ L k) oa oc out w :=
  ⟨h.o, fun q e hk => hk.elim (h.no q e) (h1 q e), fun k hk => hk.elim (h.kl k) (h2 k), h.b, h.bl⟩
theorem FS.less {B : Nat} {w0 : World} {K L : Nat → Prop} {oa : Option Addr} {oc : Nat} {out : List Tx} {w : World} (h : FS B w0 K oa oc out w) (hl : ∀ k, L k → K k) : FS B w0 L oa oc out w :=
  ⟨h.o, fun q e hk => h.no q e (hl q hk), fun k hk => h.kl k (hl k hk), h.b, h.bl⟩
theorem FS.grow {B : Nat} {w0 : World} {K : Nat → Prop} {oa : Option Addr} {oc : Nat} {out : List Tx} {x : Tx} {w w6 : World} {q cap : Nat} {o : Obj} (h : FS B w0 K oa oc out w)
    (own : w6.ownsRow B 9 1 (.slice (some ⟨q, 0, none⟩) (out.length + 1) cap) (out.length + 1) (strsV out ++ [.string x]))
    (hg : (w.alloc o).grownBy w6 (Value.slice oa out.length oc).ownBlock) (hat : (Value.slice oa out.length oc).ownBlock = some q ∨ q = (w.alloc o).heap.size) :
    FS B w0 K (some ⟨q, 0, none⟩) cap (out ++ [x]) w6 ∧ Turn (fun k => oa = some ⟨k, 0, none⟩) w w6 := by
  have hza : (w.alloc o).heap.size = w.heap.size + 1 := by simp
  have hz6 := hg.size
  have old : ∀ k, k < w.heap.size → oa ≠ some ⟨k, 0, none⟩ → w6.heap[k]? = w.heap[k]? := fun k hk hn =>
    (hg.block k (by omega) (fun e => hn (gown_at h.o e))).trans (Below.heap_alloc _ _ _ (by omega))
  have t : Turn (fun k => oa = some ⟨k, 0, none⟩) w w6 := ⟨hg.os, hg.tape, hg.output, by omega, fun k hk hn => old k hk hn⟩
  have hlen : (out ++ [x]).length = out.length + 1 := by simp
  refine ⟨⟨by rw [hlen, strsV_snocG]; exact own, fun r hr hk => ?_, fun k hk => by have := h.kl k hk; omega, h.b.trans (t.below (fun k hk => (h.o.lt k (by rw [hk]; rfl)).1) h.bl), by have := h.bl; omega⟩, t⟩
  injection hr with hr; injection hr with hr; subst hr
  rcases hat with e | e
  · exact h.no q (gown_at h.o e.symm) hk
  · have := h.kl q hk; omega
theorem FS.start (w : World) : FS w.heap.size w (fun _ => False) none 0 [] w := ⟨World.ownsRow_nil _ _ _ _, fun q e => by (cases e), fun k hk => hk.elim, Below.refl _ _, Nat.le_refl _⟩
end Go.Proofs.Ytbimbgcejeeinaa
/- the document's graph: a node more, its contract -/
namespace Go.Proofs.Ytbimbgcejeeinaa
open Go.RowKit Go.Maps
set_option linter.unusedVariables false
set_option maxRecDepth 20000
theorem nodeR_info : (Try.prog.info? 124).map (fun i => (i.zero, i.size, i.bytes)) = some (some (.agg #[.slice none 0 0, .slice none 0 0]), 2, 48) := by kernel_rfl
theorem find_at {st : List GN} {s : List Tx} {i : Nat} (hi : i < st.length) (h : (st.getD i gn0).rests = s) (hn : ∀ k, k < i → (st.getD k gn0).rests ≠ s) : findG st s = some i := by
  unfold findG
  refine List.findIdx?_eq_some_iff_getElem.2 ⟨hi, ?_, fun j hj => ?_⟩
  · rw [List.getD_eq_getElem?_getD, List.getElem?_eq_getElem hi] at h
    exact decide_eq_true h
  · have h1 := hn j hj
    rw [List.getD_eq_getElem?_getD, List.getElem?_eq_getElem (show j < st.length by omega)] at h1
    simpa using h1
theorem find_not {st : List GN} {s : List Tx} (hn : ∀ k, k < st.length → (st.getD k gn0).rests ≠ s) : findG st s = none := by
  unfold findG
  rw [List.findIdx?_eq_none_iff]
  intro x hx
  obtain ⟨k, hk, rfl⟩ := List.getElem_of_mem hx
  have h1 := hn k hk
  rw [List.getD_eq_getElem?_getD, List.getElem?_eq_getElem hk] at h1
  simpa using h1
theorem take_txP2 (l : List Tx) (i : Nat) (h : i < l.length) : l.take (i + 1) = l.take i ++ [l.getD i ByteArray.empty] := by
  rw [List.take_add_one, List.getElem?_eq_getElem h, List.getD_eq_getElem?_getD, List.getElem?_eq_getElem h]; rfl
def AddP (g : Nat) (w : World) (S F : Nat → Prop) (r : Nat × List GN) (e : Ending) (w' : World) : Prop := e = .returned (.int .i64 r.1) ∧ PR g r.2 w S F w'
def AddAny (g f : Nat) : Prop := ∀ (st : List GN) (s : List Tx) (a : Option Addr) (cap : Nat) (S F : Nat → Prop) (w : World), RQ g st w S F → OkL f s → HoldsT w a s.length s → (0 < s.length → ∀ fb fo, a = some ⟨fb, fo, none⟩ → F fb) → s.length ≤ cap → st.length + wtS s + 1 ≤ 1000000 →
    Calls Try.prog 90 #[.pointer (some ⟨g, 0, none⟩), .slice a s.length cap] w (AddP g w S F (reachF (f + 1) st s))
set_option maxHeartbeats 6400000 in
set_option maxRecDepth 100000 in
theorem add_step (g f : Nat) (IH : ∀ f', f = f' + 1 → AddAny g f') : AddAny g f := by
  intro st s a cap S F w hQ hO hH hA hc hb
  obtain ⟨i0, hi, hz0, hz1, hz2⟩ := info_parts nodeR_info
  obtain ⟨j0, hj, hy0, hy1, hy2⟩ := info_parts edgeG_info
  obtain ⟨k0, hk, hx0, hx1, hx2⟩ := info_parts str_info
  have IHH := Lib.hid IH; have OK := Lib.hid hO; have HH := Lib.hid hH; have AF := Lib.hid hA; have QW := Lib.hid hQ
  obtain ⟨n, hn⟩ : ∃ n, s.length = n := ⟨_, rfl⟩
  have HN := Lib.hid hn
  rw [hn] at hH hc
  have hn100 : n ≤ 100 := by have := hO.n; omega
  obtain ⟨L, hL⟩ : ∃ L, st.length = L := ⟨_, rfl⟩
  have HL := Lib.hid hL
  have hL2 : L ≤ 1000000 := by omega
  have HWB := Lib.hid hb
  clear hQ hO hA IH hb hL
  clear hH
  rw [hn]
  clear hn
  go_enter Try.func90, Try.ntmps90
  go_wp2_with fail
  go_loopw [5] (fun iv wr => ∃ (j : Nat), j ≤ L ∧ iv = .int .i64 j ∧ Hid (∀ k, k < j → (st.getD k gn0).rests ≠ s) ∧ Hid (Below w.heap.size w wr)) (fun iv _ => L - (intOf iv).toNat)
  case atStart => exact ⟨0, by omega, rfl, Lib.hid (fun k hk => by omega), Lib.hid (Below.refl _ _)⟩
  case round =>
    obtain ⟨j, hj', rfl, hNo, hB⟩ := hrel
    have QR := Lib.hid (QW.out.below hB.out)
    obtain ⟨na, nc, NL, B, eq⟩ := QR.out
    have hnl : NL.length = L := by have := congrArg List.length eq; have h2 := HL.out; simp at this; omega
    have gc := B.c
    rw [hnl] at gc
    by_cases hlt : j < L
    · obtain ⟨q, rfl, v0, -⟩ := B.at (i := j) (by omega)
      have hxr := B.r _ (mem_nr (L := NL) (i := j) (by omega))
      have hxe : (NL.getD j nr0).rests = (st.getD j gn0).rests := by
        have h2 := congrArg (fun l => l[j]?) eq
        have h3 := HL.out
        simp only [List.getElem?_map, List.getElem?_eq_getElem (show j < NL.length by omega), List.getElem?_eq_getElem (show j < st.length by omega), Option.map_some] at h2
        injection h2 with h2
        rw [List.getD_eq_getElem?_getD, List.getD_eq_getElem?_getD, List.getElem?_eq_getElem (show j < NL.length by omega), List.getElem?_eq_getElem (show j < st.length by omega)]
        exact congrArg Prod.fst h2
      obtain ⟨x, hx⟩ : ∃ x, NL.getD j nr0 = x := ⟨_, rfl⟩
      rw [hx] at v0 hxr hxe
      obtain ⟨m, hm⟩ : ∃ m, x.rests.length = m := ⟨_, rfl⟩
      have h1 := hxr.1
      have h2 := hxr.2.1
      rw [hm] at h1 v0 h2
      obtain ⟨b, hb⟩ : ∃ b, decide (x.rests = s) = b := ⟨_, rfl⟩
      have CS := Lib.hid (same8_any x.ra a m x.rc n cap x.rests s wr h1 (by have := HH.out.below hB.out; rw [HN.out] at this; exact this) (by omega) (by omega))
      rw [hb] at CS
      have HB := Lib.hid hb
      have HXE := Lib.hid hxe
      have i1 : (0 : Int) ≤ (j : Int) := by omega
      have i2 : (j : Int) < (L : Int) := by omega
      clear hb hxe hx hm h1 hxr h2 B eq hnl
      cases b with
      | true =>
        go_wp2_with fail
        refine CS.out.mono ?_
        rintro e w1 ⟨rfl, mm, rfl⟩
        have FD := Lib.hid (show reachF (f + 1) st s = (j, st) from reach_found (find_at (by rw [HL.out]; exact hlt) (HXE.out ▸ of_decide_eq_true HB.out) hNo.out))
        go_wp2_with fail
        go_ret
        rw [FD.out]
        exact ⟨rfl, S, F, QR.out.below (below_drewN _ _), fun k hk => Or.inl hk, fun k hk => Or.inl hk, fun k hk => hk, Turn.of_below (hB.out.trans ((below_drewN wr mm).mono hB.out.size))⟩
      | false =>
        go_wp2_with fail
        refine CS.out.mono ?_
        rintro e w1 ⟨rfl, mm, rfl⟩
        have B2 := Lib.hid (hB.out.trans ((below_drewN wr mm).mono hB.out.size))
        go_wp2_with fail
        go_roundw
        case rel => exact ⟨j + 1, by omega, by go_num, Lib.hid (fun k hk => by
          rcases Nat.lt_or_ge k j with h | h
          · exact hNo.out k h
          · obtain rfl : k = j := by omega
            rw [← HXE.out]; exact of_decide_eq_false HB.out), B2⟩
        case measure => simp [intOf] <;> omega
    · obtain rfl : j = L := by omega
      have FD := Lib.hid (find_not (st := st) (s := s) (fun k hk => hNo.out k (by rw [HL.out] at hk; exact hk)))
      have ED := Lib.hid (show reachF (f + 1) st s = (st.length, (edgesF (reachF f) (bodS s).length (bodS s) [] (st ++ [⟨s, false, []⟩])).2.set st.length ⟨s, finS s, (edgesF (reachF f) (bodS s).length (bodS s) [] (st ++ [⟨s, false, []⟩])).1⟩) from by conv => lhs; unfold reachF; rw [FD.out])
      have HH1 := Lib.hid (HH.out.below hB.out)
      have BO := B.o
      rw [hnl] at BO
      have BW := Lib.hid B; have EQ := Lib.hid eq; have HNL := Lib.hid hnl; have OWN := Lib.hid BO
      have AB := Lib.hid (show ∀ o w', (wr.alloc o).grownBy w' (Value.slice na j nc).ownBlock → w'.cell? ⟨g, 0, none⟩ = some (.slice na j nc) ∧ w'.frozen? ⟨g, 0, none⟩ = false from fun o w' hg => by
        have lg := lt_of_cell gc
        have o2 := (hg.block g (by simp; omega) (fun e => (BW.out.sn g (gown_at OWN.out e)).2 rfl)).trans (Below.heap_alloc wr o g lg)
        exact ⟨(World.cell?_of_block (w := wr) o2).trans gc, (World.frozen?_of_block (w := wr) o2).trans (BW.out.f 0)⟩)
      clear B eq hnl BO hNo hlt
      go_wp2_with (at_builtin; refine wpList_append_lies _ rfl (.tmp 42) (.tmp 45) 120 rfl 0 124 i0 _ 2 48 Try.underlying120 hi hz0 hz1 hz2 rfl (by omega) (.slice na j nc) j (nrV NL) (by rfl) (OWN.out.alloc _) ⟨wr.heap.size, 0, none⟩ 1 1 [.slice a n cap, .slice none 0 0] (by rfl) (by rfl) (World.news_of_block (cs := #[.slice a n cap, .slice none 0 0]) (t := 124) (fr := (0, 0)) (heap_alloc_new wr _)) (by simp [Value.oneCell']) (by omega) (by unfold maxLen; omega) (by omega) (by omega) (wr.heap.size + 1) (by simp) ?_; intro g3 c3' w3 hown3 hgrow3 hat3 hlt3; obtain ⟨x0, x1⟩ := AB.out _ _ hgrow3)
      have HSZ := OK.out.n
      obtain ⟨S0, hR0⟩ : ∃ S0, RK g w S F (st ++ [⟨s, false, []⟩]) none 0 [] S0 F (w3.setCell ⟨g, 0, none⟩ (.slice (some ⟨g3, 0, none⟩) (j + 1) c3')) := by
        obtain ⟨G1, G2, G3⟩ := BW.out.grow (o := .cells #[.slice a n cap, .slice none 0 0] 124) (s := s) (ra := a) (rc := cap) HH1.out (by omega) AF.out (by rw [HNL.out, HN.out]; exact hown3) (by rw [HNL.out]; exact hgrow3) (by rw [HNL.out]; exact hat3.imp id (fun e => by simp; exact e)) hlt3
        rw [HNL.out] at G1 G2
        exact ⟨_, ⟨_, _, _, G1, by rw [List.map_append, List.map_append, EQ.out]; rfl⟩, fun k hk => by
          rcases hk with hk | hk
          · exact Or.inl hk
          · rcases G3 with e | e
            · exact Or.inl (by rw [hk]; exact e)
            · exact Or.inr (by rw [hk]; have := hB.out.size; omega), fun k hk => Or.inl hk, fun k hk => hk, (Turn.of_below hB.out).trans G2, World.ownsRow_nil _ _ _ _, fun k e => (by cases e)⟩
      have R0 := Lib.hid hR0
      clear hR0 hown3 hgrow3 hat3 hlt3 x0 x1 AB OWN BW EQ HNL gc QR HH1 FD
      generalize w3.setCell ⟨g, 0, none⟩ (.slice (some ⟨g3, 0, none⟩) (j + 1) c3') = w5 at *
      obtain ⟨R, hR⟩ : ∃ r, edgesF (reachF f) (bodS s).length (bodS s) [] (st ++ [⟨s, false, []⟩]) = r := ⟨_, rfl⟩
      rw [hR] at ED
      have HR := Lib.hid hR
      have HOK := Lib.hid (show OkL f (bodS s) ∧ ∀ t ∈ bodS s, 0 < t.size from ⟨OK.out.bod, bod_pos OK.out.ord⟩)
      have hbl : (bodS s).length ≤ 100 := HOK.out.1.n
      have HWT := Lib.hid (show (st ++ [(⟨s, false, []⟩ : GN)]).length + wtS (bodS s) ≤ 1000000 from by rw [List.length_append, List.length_singleton]; have := wt_bod s; have := HWB.out; omega)
      have HLT := Lib.hid (show j < (st ++ [(⟨s, false, []⟩ : GN)]).length from by rw [List.length_append, List.length_singleton, HL.out]; omega)
      have HRS := Lib.hid (show ((st ++ [(⟨s, false, []⟩ : GN)]).getD j gn0).rests = s from by rw [← HL.out]; simp [List.getD_eq_getElem?_getD])
      clear hR HSZ
      go_wp2_with fail
      go_loopw [7, 8] (fun ev iv wr => ∃ (i k : Nat) (l : List Tx) (es : List EdP) (st1 : List GN) (S1 F1 : Nat → Prop) (ea : Option Addr) (ec : Nat), i ≤ n ∧ ev = .slice ea es.length ec ∧ iv = .int .i64 i ∧ l.length ≤ k ∧ es.length + k ≤ 100 ∧ Hid (bodS (s.drop i) = l) ∧ Hid (edgesF (reachF f) k l es st1 = R) ∧ Hid (OkL f l ∧ ∀ t ∈ l, 0 < t.size) ∧ Hid (st1.length + wtS l ≤ 1000000) ∧ Hid (j < st1.length) ∧ Hid ((st1.getD j gn0).rests = s) ∧ Hid (RK g w S F st1 ea ec es S1 F1 wr)) (fun _ iv _ => n - (intOf iv).toNat)
      case atStart => exact ⟨0, (bodS s).length, bodS s, [], _, S0, F, none, 0, by omega, rfl, rfl, Nat.le_refl _, by simpa using hbl, Lib.hid (by rw [List.drop_zero]), HR, HOK, HWT, HLT, HRS, R0⟩
      case round =>
        clear R0 HOK HWT HLT HRS HR hbl
        obtain ⟨i, k, l, es, st1, S1, F1, ea, ec, hi', rfl, rfl, hlk, hek, hBD, hE, hOK, hWT, hLT, hRS, hRK⟩ := hrel
        rename World => wr
        have HA := Lib.hid (show HoldsT wr a n s from by
          have h1 := HH.out
          rw [HN.out] at h1
          exact holdsT_turn h1 hRK.out.t (fun h0 fb fo e => (QW.out.fl fb (AF.out (by rw [HN.out]; exact h0) fb fo e)).1))
        by_cases hin : i < n
        · obtain ⟨b, o, rfl, hcc⟩ := HA.out.at (by omega)
          have xc := hcc i hin
          obtain ⟨t, ht⟩ : ∃ t, s.getD i ByteArray.empty = t := ⟨_, rfl⟩
          rw [ht] at xc
          have i1 : (0 : Int) ≤ (i : Int) := by omega
          have i2 : (i : Int) < (n : Int) := by omega
          have SD := Lib.hid (show s.drop i = t :: s.drop (i + 1) from by
            rw [List.drop_eq_getElem_cons (by rw [HN.out]; exact hin), ← ht, List.getD_eq_getElem?_getD, List.getElem?_eq_getElem (by rw [HN.out]; exact hin)]; rfl)
          obtain ⟨zf, hzf⟩ : ∃ z, t.toList.isEmpty = z := ⟨_, rfl⟩
          have hzt2 : (t.toList == []) = zf := by rw [← hzf]; cases t.toList <;> rfl
          clear hcc ht
          cases zf with
          | true =>
            have ht0 : t = (⟨#[]⟩ : ByteArray) := (tx_nil t).2 (List.isEmpty_iff.1 hzf)
            have HBN := Lib.hid (show bodS (s.drop (i + 1)) = l from by
              have h1 := hBD.out
              rw [SD.out, ht0, bod_skip] at h1
              rw [h1]; exact bod_same hOK.out.2)
            clear ht0
            go_wp2_with fail
            go_roundw
            case rel => exact ⟨i + 1, k, l, es, st1, S1, F1, ea, ec, by omega, rfl, by go_num, hlk, hek, HBN, hE, hOK, hWT, hLT, hRS, hRK⟩
            case measure => simp [intOf] <;> omega
          | false =>
            have hls : l = t :: s.drop (i + 1) := by
              rw [← hBD.out, SD.out]
              unfold bodS finS
              have h2 : t ≠ (⟨#[]⟩ : ByteArray) := fun e => by rw [(tx_nil t).1 e] at hzf; cases hzf
              simp [h2]
            have LS := Lib.hid (show l = s.drop i from by rw [hls, SD.out])
            have hl0 : l ≠ [] := by rw [hls]; simp
            have hpos : 0 < l.length := List.length_pos_iff.2 hl0
            have htl : t ∈ l := by rw [hls]; simp
            have ht0 : l.getD 0 ByteArray.empty = t := by rw [hls]; rfl
            have tg := hOK.out.1.lo t htl
            have tp := hOK.out.2 t htl
            have tz := hOK.out.1.sz t htl
            obtain ⟨k, rfl⟩ : ∃ k', k = k' + 1 := ⟨k - 1, by omega⟩
            obtain ⟨f', rfl⟩ : ∃ f', f = f' + 1 := by
              refine ⟨f - 1, ?_⟩
              have h1 := rst_len tg tp
              have h2 := hOK.out.1.hi t htl
              omega
            have C := Lib.hid (IHH.out f' rfl)
            have HFL := Lib.hid (fol_len l hl0)
            have HWF := Lib.hid (wt_fol hl0 hOK.out.1.lo hOK.out.2)
            have OKF := Lib.hid (hOK.out.1.fol hOK.out.2)
            have RF := Lib.hid (run_fol hl0)
            have RIN := Lib.hid (fun (m : Nat) (hm : m < (runL l).length) => run_in hm)
            have REN := Lib.hid (fun (h : (runL l).length < l.length) => run_end h)
            rw [ht0] at RF RIN REN
            have hEE := hE.out
            unfold edgesF at hEE
            rw [if_neg hl0] at hEE
            obtain ⟨⟨lab, rs⟩, hfo⟩ : ∃ r, folS l = r := ⟨_, rfl⟩
            rw [hfo] at hEE HFL HWF OKF RF
            obtain ⟨⟨ix, st2⟩, hre⟩ : ∃ r, reachF (f' + 1) st1 rs = r := ⟨_, rfl⟩
            simp only at hEE
            rw [hre] at hEE
            have HE := Lib.hid hEE
            have HRE := Lib.hid hre
            have RLN := Lib.hid (reach_len f' st1 rs OKF.out)
            rw [hre] at RLN
            obtain ⟨D, hD⟩ : ∃ D, rs.length = D := ⟨_, rfl⟩
            simp only at RF HFL HWF
            rw [hD] at RF HFL HWF HE
            have HD := Lib.hid hD
            have HLAB := Lib.hid (show lab = labS t from RF.out.1)
            have hDl := HFL.out
            have hln : l.length = n - i := by rw [LS.out, List.length_drop, HN.out]
            have CR := Lib.hid (r1runesq_any t wr (by omega))
            have CP := Lib.hid (fun w' => rprefix_one t w' (by omega) tg tp)
            have TG := Lib.hid tg; have HT0 := Lib.hid ht0
            have KR := Lib.hid (show 1 ≤ (runesS t).length ∧ (runesS t).getD 0 0 = labS t from by rw [rst_runes tg tp]; simp)
            clear hEE hre hE hfo hD hls hl0 htl ht0 tg tp tz hzf xc
            have RSE := Lib.hid (show rs = (l.take D).map rstS from by rw [RF.out.2.1, RF.out.2.2.2, RF.out.2.2.1])
            have RIN2 := Lib.hid (show ∀ m, m < D → labS (l.getD m ByteArray.empty) = labS t from fun m hm => (RIN.out m (by rw [RF.out.2.2.1]; exact hm)).1)
            have REN2 := Lib.hid (show D < l.length → labS (l.getD D ByteArray.empty) ≠ labS t from fun h => by have h1 := REN.out (by rw [RF.out.2.2.1]; exact h); rwa [RF.out.2.2.1] at h1)
            clear RIN REN RF
            have LC := Lib.hid (show ∀ (m : Nat), i + m < n → ∀ w', Below wr.heap.size wr w' → w'.cell? ⟨b, o + (i + m), none⟩ = some (.string (l.getD m ByteArray.empty)) from fun m hm w' hb => by
              obtain ⟨b', o', e, hcc⟩ := (HA.out.below hb).at (by omega)
              injection e with e; injection e with e1 e2; subst e1; subst e2
              rw [hcc (i + m) hm, LS.out]
              simp [List.getD_eq_getElem?_getD])
            have x0 := LC.out 0 (by omega) wr (Below.refl _ _)
            rw [HT0.out, Nat.add_zero] at x0
            obtain ⟨hd, hhd⟩ : ∃ h, headS t = h := ⟨_, rfl⟩
            rw [hhd] at CP
            have HHD := Lib.hid hhd
            have hds : hd.size ≤ t.size := by rw [← hhd]; exact (head_size TG.out (hOK.out.2 t (by rw [LS.out, SD.out]; simp))).2.1
            clear hhd
            go_wp2_with fail
            refine CR.out.mono ?_
            rintro e w6 (⟨h1, la, lc, rfl, h2, h3⟩ | ⟨h1, rfl, h3⟩)
            rotate_left
            · exact absurd TG.out (by omega)
            obtain ⟨kr, hkr⟩ : ∃ x, (runesS t).length = x := ⟨_, rfl⟩
            have KR1 := KR.out.1
            have HI : HoldsI .i32 w6 la kr (intsN (runesS t)) := by rw [← hkr]; exact holdsI_own h2
            rw [hkr] at KR1
            obtain ⟨lb, lo, rfl, hlc⟩ := HI.at (by omega)
            have lcell := hlc 0 (by omega)
            rw [show (intsN (runesS t)).getD 0 0 = (lab : Int) from by
              rw [HLAB.out, ← KR.out.2]
              simp [intsN, List.getD_eq_getElem?_getD, List.getElem?_eq_getElem (show 0 < (runesS t).length by omega)]] at lcell
            have LBS := Lib.hid (show ¬ S1 lb from fun hk => by have := hRK.out.q.lt lb hk; have := (own_blockG h2 rfl).1; omega)
            have R6 := Lib.hid (hRK.out.more h3)
            have B6 := Lib.hid h3
            have LC6 := Lib.hid lcell
            rw [hkr]
            clear h1 h2 h3 HI hlc lcell hkr x0 CR
            have x1 := LC.out 0 (by omega) w6 B6.out
            rw [HT0.out, Nat.add_zero] at x1
            go_wp2_with fail
            refine (CP.out w6).mono ?_
            rintro e w7 ⟨rfl, hb⟩
            have R7 := Lib.hid (R6.out.more hb)
            have B7 := Lib.hid (B6.out.trans (hb.mono B6.out.size))
            have LC7 := Lib.hid ((hb.cell (p := ⟨lb, lo + 0, none⟩) (lt_of_cell LC6.out)).trans LC6.out)
            clear hb x1 R6 LC6 B6
            go_wp2_with fail
            go_loopw [8, 12] (fun iv bv wq => ∃ (m : Nat) (oa : Option Addr) (oc on : Nat) (out : List Tx), m ≤ D ∧ on = out.length ∧ iv = .int .i64 ((i + m : Nat) : Int) ∧ bv = .slice oa on oc ∧ Hid (out = (l.take m).map rstS) ∧ Hid (FS w7.heap.size w7 (fun _ => False) oa oc out wq)) (fun iv _ _ => n - (intOf iv).toNat)
            case atStart => exact ⟨0, none, 0, 0, [], by omega, rfl, by simp, rfl, Lib.hid (by simp), Lib.hid (FS.start w7)⟩
            case round =>
              obtain ⟨m, oa, oc, on, out, hm, hon, rfl, rfl, hO, hF⟩ := hrel
              rename World => wq
              obtain ⟨zc, hzc⟩ : ∃ z, decide (m < D) = z := ⟨_, rfl⟩
              have HZC := Lib.hid hzc
              have BQ := Lib.hid (B7.out.trans (hF.out.b.mono B7.out.size))
              have HON := Lib.hid hon
              clear hzc hon
              go_upto_region 16 with fail
              go_cut [85] (fun u wd => u = .bool zc ∧ Hid (Below wq.heap.size wq wd))
              case first =>
                by_cases hlt : i + m < n
                · have d1 : decide ((i : Int) + (m : Int) < (n : Int)) = true := decide_eq_true (by omega)
                  have d2 : decide (i + m < n) = true := decide_eq_true hlt
                  have hml : m < l.length := by omega
                  obtain ⟨t', ht'⟩ : ∃ x, l.getD m ByteArray.empty = x := ⟨_, rfl⟩
                  have htm : t' ∈ l := by rw [← ht']; exact getD_tx hml
                  have x2 := LC.out m hlt wq BQ.out
                  rw [ht'] at x2
                  have tg' := hOK.out.1.lo t' htm
                  have tp' := hOK.out.2 t' htm
                  have tz' := hOK.out.1.sz t' htm
                  have CP' := Lib.hid (rprefix_one t' wq (by omega) tg' tp')
                  obtain ⟨hd', hhd'⟩ : ∃ h, headS t' = h := ⟨_, rfl⟩
                  have hz : (hd'.toList == hd.toList) = zc := by
                    have tp := hOK.out.2 t (by rw [LS.out, SD.out]; simp)
                    have h1 := head_lab (s := t') (t := t) tg' TG.out tp' tp
                    rw [hhd', HHD.out] at h1
                    rw [← HZC.out]
                    by_cases hmD : m < D
                    · rw [decide_eq_true hmD, h1.2 (by rw [← ht']; exact RIN2.out m hmD)]; exact str_same _
                    · obtain rfl : m = D := by omega
                      rw [decide_eq_false hmD]
                      exact str_other (fun e => REN2.out hml (by rw [ht']; exact h1.1 e))
                  rw [hhd'] at CP'
                  clear hhd' ht' htm tg' tp' tz'
                  go_wp2_with fail
                  refine CP'.out.mono ?_
                  rintro e w8 ⟨rfl, hb⟩
                  go_wp2_with fail
                  go_meet
                  exact ⟨rfl, Lib.hid hb⟩
                · have d1 : decide ((i : Int) + (m : Int) < (n : Int)) = false := decide_eq_false (by omega)
                  have d2 : decide (i + m < n) = false := decide_eq_false hlt
                  obtain rfl : zc = false := by rw [← HZC.out]; exact decide_eq_false (by omega)
                  go_wp2_with fail
                  go_meet
                  exact ⟨rfl, Lib.hid (Below.refl _ _)⟩
              case rest =>
                obtain ⟨rfl, hBq⟩ := hcut
                rename World => w9
                have F9 := Lib.hid (hF.out.more hBq.out)
                have B9 := Lib.hid (BQ.out.trans (hBq.out.mono BQ.out.size))
                clear hF hBq BQ
                cases zc with
                | true =>
                  have hmD : m < D := of_decide_eq_true HZC.out
                  have hml : m < l.length := by omega
                  have hlt : i + m < n := by omega
                  obtain ⟨t', ht'⟩ : ∃ x, l.getD m ByteArray.empty = x := ⟨_, rfl⟩
                  have x3 := LC.out m hlt w9 B9.out
                  rw [ht'] at x3
                  have htm : t' ∈ l := by rw [← ht']; exact getD_tx hml
                  have tg' := hOK.out.1.lo t' htm
                  have tp' := hOK.out.2 t' htm
                  have tz' := hOK.out.1.sz t' htm
                  have tp := hOK.out.2 t (by rw [LS.out, SD.out]; simp)
                  have hh' : headS t' = hd := by rw [← HHD.out]; exact (head_lab tg' TG.out tp' tp).2 (by rw [← ht']; exact RIN2.out m hmD)
                  have hsz' := (head_size tg' tp').2.1
                  rw [hh'] at hsz'
                  have HCUT := Lib.hid (show t'.extract hd.size t'.size = rstS t' from by rw [← hh']; exact head_cut tg' tp')
                  have HNX := Lib.hid (show out ++ [rstS t'] = (l.take (m + 1)).map rstS from by rw [take_txP2 l m hml, ht', List.map_append, hO.out]; rfl)
                  have hs1 : (hd.size : Int) ≤ (t'.size : Int) := by omega
                  have i3 : (0 : Int) ≤ ((i + m : Nat) : Int) := by omega
                  have i4 : ((i + m : Nat) : Int) < (n : Int) := by omega
                  have i5 : (0 : Int) ≤ (i : Int) + (m : Int) := by omega
                  have i6 : (i : Int) + (m : Int) < (n : Int) := by omega
                  have hbl := F9.out.bl
                  have hol : out.length ≤ 100 := by rw [hO.out, List.length_map, List.length_take]; omega
                  have hon := HON.out
                  subst hon
                  clear ht' htm tg' tp' tp hh'
                  go_wp2_with (at_builtin; refine wpList_append_lies _ rfl (.tmp 86) (.tmp 94) 22 rfl w7.heap.size 9 k0 _ 1 16 Try.underlying22 hk hx0 hx1 hx2 rfl (by omega) (.slice oa out.length oc) out.length (strsV out) (by rfl) (F9.out.o.alloc _) ⟨w9.heap.size, 0, none⟩ 1 1 [.string (t'.extract hd.size t'.size)] (by rfl) (by rfl) (World.news_of_block (cs := #[.string (t'.extract hd.size t'.size)]) (t := 9) (fr := (0, 0)) (heap_alloc_new w9 _)) (by simp [Value.oneCell']) (by omega) (by unfold maxLen; omega) (by omega) (by simp; omega) (w9.heap.size + 1) (by simp) ?_; intro g4 c4 w8 hown4 hgrow4 hat4 hlt4; have GR := Lib.hid (F9.out.grow hown4 hgrow4 (hat4.imp id (fun e => by simp; exact e))); clear hown4 hgrow4 hat4 hlt4)
                  rw [HCUT.out] at GR
                  go_roundw
                  case rel => exact ⟨m + 1, some ⟨g4, 0, none⟩, c4, out.length + 1, out ++ [rstS t'], by omega, by simp, by go_num, rfl, HNX, Lib.hid GR.out.1⟩
                  case measure => simp [intOf] <;> omega
                | false =>
                  have hmD : m = D := by have := of_decide_eq_false HZC.out; omega
                  subst hmD
                  obtain rfl : out = rs := hO.out.trans RSE.out.symm
                  have hon := HON.out
                  subst hon
                  have R9 := Lib.hid (R7.out.more (w' := w9) (by
                    have h1 := F9.out.b
                    exact h1))
                  have ROWS := Lib.hid (show ∀ k, (∃ fo, oa = some ⟨k, fo, none⟩) → ¬ S1 k ∧ k < w9.heap.size ∧ w.heap.size ≤ k ∧ ea ≠ some ⟨k, 0, none⟩ from fun k hk => by
                    obtain ⟨fo, e⟩ := hk
                    have h1 := own_blockG F9.out.o e
                    have h2 := R7.out.t.size
                    exact ⟨fun h => by have := R7.out.q.lt k h; omega, h1.2, by omega, fun e2 => by have := (R7.out.o.lt k (by rw [e2]; rfl)).2; omega⟩)
                  have R9d := Lib.hid ((R9.out.rows _ ROWS.out).more (Below.refl w9.heap.size w9).drew)
                  have C6 := Lib.hid (C.out st1 out oa oc S1 _ w9.drew R9d.out.q OKF.out ((HoldsT.own F9.out.o).below (Below.refl _ _).drew) (fun h0 fb fo e => Or.inr ⟨fo, e⟩) (owns_none F9.out.o).2 (by have := hWT.out; have := HWF.out; omega))
                  rw [HRE.out] at C6
                  have y0 : w9.drew.cell? ⟨lb, lo, none⟩ = some (.int .i32 (lab : Int)) := by
                    have h1 := (F9.out.b.cell (p := ⟨lb, lo + 0, none⟩) (lt_of_cell LC7.out)).trans LC7.out
                    rw [Nat.add_zero] at h1; exact h1
                  have hes : es.length ≤ 100 := by omega
                  have kr1 : (0 : Int) < (kr : Int) := by omega
                  have kr2 : 0 < kr := by omega
                  go_upto_region 19 with fail
                  go_region_law
                    (first
                      | (refine step_append_lies _ (by rfl) _ _ _ (by rfl) w.heap.size 115 j0 _ 2 16 Try.underlying110 hj hy0 hy1 hy2 rfl (by omega) (.slice ea es.length ec) es.length (edsV es) (by first | rfl | (simp [Act.eval]; done) | simp [Act.eval, Act.put]) (hR10.o.alloc _) ⟨w10.heap.size, 0, none⟩ 1 1 [.int .i32 (lab : Int), .int .i64 (ix : Int)] (by first | rfl | (simp [Act.eval]; done) | simp [Act.eval, Act.put]) (by rfl) (World.news_of_block (cs := #[.int .i32 (lab : Int), .int .i64 (ix : Int)]) (t := 115) (fr := (0, 0)) (heap_alloc_new w10 _)) (by simp [Value.oneCell']) (by omega) (by unfold maxLen; omega) (by omega) (by have := hR10.t.size; simp; omega) (w10.heap.size + 1) (by simp) ?_; intro g4 c4 w8 hown8 hgrow8 hat8 hlt8)
                      | (go_simp; go_at_call 90; (with_reducible refine C6.out.mono ?_); rintro e w10 ⟨rfl, hPO⟩; obtain ⟨S2, F2, hR10⟩ := R9d.out.step hPO; have y1 := (show w10.cell? ⟨lb, lo, none⟩ = some (.int .i32 (lab : Int)) from by (obtain ⟨_, _, _, _, _, _, t2⟩ := hPO; exact (t2.cell (lt_of_cell y0) LBS.out).trans y0))))
                  all_goals
                    have RN := Lib.hid (hR10.edge (x := ⟨(lab : Int), (ix : Int)⟩) hown8 hgrow8 (hat8.imp id (fun e => by simp; exact e))).1
                    have DRP := Lib.hid (show bodS (s.drop (i + m)) = l.drop m from by
                      have h1 : s.drop (i + m) = l.drop m := by rw [LS.out, List.drop_drop]
                      rw [h1]; exact bod_same (fun u hu => hOK.out.2 u (List.mem_of_mem_drop hu)))
                    have RSN := Lib.hid (show (st2.getD j gn0).rests = s from by rw [← hRS.out]; have := reach_rests f' st1 out OKF.out j hLT.out; rw [HRE.out] at this; exact this)
                    clear hown8 hgrow8 hat8 hlt8 hR10 y1 y0
                    go_wp2_with fail
                    go_roundw
                    case rel => exact ⟨i + m, by omega, k, l.drop m, es ++ [⟨(lab : Int), (ix : Int)⟩], st2, S2, F2, some ⟨g4, 0, none⟩, c4, ⟨rfl, by simp, rfl⟩, by omega, by rw [List.length_drop]; omega, by simp; omega, DRP, HE, Lib.hid ⟨hOK.out.1.drop _, fun t ht => hOK.out.2 t (List.mem_of_mem_drop ht)⟩, Lib.hid (by have := hWT.out; have := HWF.out; have := RLN.out; omega), Lib.hid (by have := hLT.out; have := RLN.out; omega), Lib.hid (by have := RSN.out; rwa [List.getD_eq_getElem?_getD] at this), RN⟩
                    case measure => simp [intOf] <;> omega
        · obtain rfl : i = n := by omega
          have hl : l = [] := by rw [← hBD.out, List.drop_of_length_le (by rw [HN.out]; omega)]; rfl
          subst hl
          have HRR := Lib.hid (show R = (es, st1) from by
            rw [← hE.out]
            cases k with
            | zero => rfl
            | succ k => unfold edgesF; rw [if_pos rfl])
          obtain ⟨nc1, q, gc, ⟨v, hv⟩, hqf, hPO⟩ := hRK.out.target j hLT.out s hRS.out (finS s)
          have f1 := hqf (j * 2 + 1)
          have i1 : (0 : Int) ≤ (j : Int) := by omega
          have i2 : (j : Int) < (st1.length : Int) := by have := hLT.out; omega
          have FIN := Lib.hid hPO
          clear hPO hqf
          go_wp2_with fail
          go_ret
          rw [ED.out, HRR.out, HL.out]
          exact ⟨rfl, FIN.out⟩
theorem add_any (g : Nat) : ∀ f, AddAny g f := by
  intro f
  induction f with
  | zero => exact add_step g 0 (fun f' e => by omega)
  | succ f ih => exact add_step g (f + 1) (fun f' e => by obtain rfl : f = f' := by omega
                                                          exact ih)
end Go.Proofs.Ytbimbgcejeeinaa
/- the document's graph: Build, Final, Edges, Next, From -/
namespace Go.Proofs.Ytbimbgcejeeinaa
open Go.RowKit
set_option linter.unusedVariables false
set_option maxRecDepth 20000
theorem RQ.node {g : Nat} {st : List GN} {w : World} {S F : Nat → Prop} (h : RQ g st w S F) {k : Nat} (hk : k < st.length) : ∃ q nc ra rc ea ec, w.cell? ⟨g, 0, none⟩ = some (.slice (some ⟨q, 0, none⟩) st.length nc) ∧
    w.cell? ⟨q, k * 2, none⟩ = some (.slice ra (st.getD k gn0).rests.length rc) ∧ w.cell? ⟨q, k * 2 + 1, none⟩ = some (.slice ea (st.getD k gn0).edges.length ec) ∧ HoldsT w ra (st.getD k gn0).rests.length (st.getD k gn0).rests ∧ HoldsEd w ea (st.getD k gn0).edges.length (st.getD k gn0).edges ∧ (ea = none → (st.getD k gn0).edges.length = 0 ∧ ec = 0) := by
  obtain ⟨na, nc, NL, B, eq⟩ := h
  obtain ⟨hl, hx⟩ := B.len eq
  obtain ⟨q, rfl, c0, c1⟩ := B.at (i := k) (by omega)
  have hm := mem_nr (L := NL) (i := k) (by omega)
  have he := B.e _ hm
  have hr := B.r _ hm
  obtain ⟨x1, x2⟩ := hx k hk
  refine ⟨q, nc, (NL.getD k nr0).ra, (NL.getD k nr0).rc, (NL.getD k nr0).ea, (NL.getD k nr0).ec, by rw [← hl]; exact B.c, by rw [← x1]; exact c0, by rw [← x2]; exact c1, by rw [← x1]; exact hr.1, by rw [← x2]; exact he.1, by rw [← x2]; exact he.2.1.1⟩
theorem RQ.len {g : Nat} {st : List GN} {w : World} {S F : Nat → Prop} (h : RQ g st w S F) : ∃ na nc, w.cell? ⟨g, 0, none⟩ = some (.slice na st.length nc) := by
  obtain ⟨na, nc, NL, B, eq⟩ := h
  obtain ⟨hl, hx⟩ := B.len eq
  exact ⟨na, nc, by rw [← hl]; exact B.c⟩
structure CtxR (w0 w : World) (g : Nat) (st : List GN) (S F : Nat → Prop) : Prop where
  Q : RQ g st w S F
  s : ∀ k, S k → w0.heap.size ≤ k
  b : Below w0.heap.size w0 w
theorem CtxR.more {w0 w w' : World} {g : Nat} {st : List GN} {S F : Nat → Prop} (c : CtxR w0 w g st S F) (hb : Below w.heap.size w w') : CtxR w0 w' g st S F :=
  ⟨c.Q.below hb, c.s, c.b.trans (hb.mono c.b.size)⟩
theorem rbuild_bad (a : Option Addr) (n cap : Nat) (ts : List Tx) (v : Int) (w : World) (hh : HoldsT w a n ts) (hn : n ≤ 9223372036854775807) (hs : ∀ t ∈ ts, t.size ≤ 1048576) (hv : goodV ts = v) (h0 : v ≠ 0) :
    Calls Try.prog 55 #[.slice a n cap] w fun e w' => e = .returned (.tuple #[.pointer none, .int .i64 v]) ∧ Below w.heap.size w w' := by
  have CG := Lib.hid (rgood_any a n cap ts w hh hn hs)
  rw [hv] at CG
  have hne : (v != 0) = true := by simpa using h0
  clear hh hs hv h0
  go_enter Try.func55, Try.ntmps55
  go_wp2_with fail
  refine CG.out.mono ?_
  rintro e w1 ⟨rfl, hb⟩
  have B1 := Lib.hid hb
  clear hb
  go_wp2_with fail
  go_ret2
  exact ⟨rfl, B1.out⟩
set_option maxHeartbeats 800000 in
theorem rbuild_good {w0 : World} (a : Option Addr) (n cap : Nat) (ts : List Tx) (st : List GN) (w : World) (hw : Below w0.heap.size w0 w) (hh : HoldsT w a n ts) (hc : n ≤ cap) (hn : n ≤ 9223372036854775807) (hs : ∀ t ∈ ts, t.size ≤ 100) (hv : goodV ts = 0) (hst : grS ts = st) :
    Calls Try.prog 55 #[.slice a n cap] w fun e w' => ∃ g S F, e = .returned (.tuple #[.pointer (some ⟨g, 0, none⟩), .int .i64 0]) ∧ CtxR w0 w' g st S F ∧ Below w.heap.size w w' := by
  subst hst
  have CG := Lib.hid (rgood_any a n cap ts w hh hn (fun t ht => by have := hs t ht; omega))
  rw [hv] at CG
  have OK := Lib.hid (ok_good hv hs)
  have WT := Lib.hid (show ([] : List GN).length + wtS ts + 1 ≤ 1000000 from by have h1 := wt_good ts OK.out.hi; have h2 := OK.out.n; simp; omega)
  have HL := hh.len
  have HH := Lib.hid hh
  have BW := Lib.hid hw
  clear hh hs hv hw
  subst HL
  go_enter Try.func55, Try.ntmps55
  go_wp2_with fail
  refine CG.out.mono ?_
  rintro e w1 ⟨rfl, hb⟩
  have B1 := Lib.hid hb
  have H1 := Lib.hid (HH.out.below hb)
  clear hb CG
  have B2 := Lib.hid (below_one w1 (.cells #[.slice none 0 0] 122))
  have Q2 := Lib.hid (show RQ w1.heap.size [] (w1.alloc (.cells #[.slice none 0 0] 122)) (fun k => k = w1.heap.size) (fun k => 0 < ts.length ∧ ∃ fo, a = some ⟨k, fo, none⟩) from
    ⟨none, 0, [], ⟨by rw [cell_alloc rfl]; rfl, fun i => frozen_alloc rfl, World.ownsRow_nil _ _ _ _, fun x hx => by simp at hx, fun x hx => by simp at hx, rfl, fun q e => (by cases e), fun k hk => (by rw [hk]; simp), fun k hk => by
      obtain ⟨h0, fo, e⟩ := hk
      obtain ⟨b, o, e2, hcc⟩ := H1.out.at h0
      rw [e] at e2
      injection e2 with e2; injection e2 with e2 e3
      have h1 := lt_of_cell (hcc 0 h0)
      subst e2
      have h2 : k < w1.heap.size := h1
      exact ⟨fun e4 => by omega, by simp; omega⟩⟩, rfl⟩)
  have CA := Lib.hid (add_any w1.heap.size 12 [] ts a cap _ _ _ Q2.out OK.out (H1.out.below B2.out) (fun h0 fb fo e => ⟨h0, fo, e⟩) hc WT.out)
  clear H1 HH hc
  go_wp2_with fail
  refine CA.out.mono ?_
  rintro e w3 ⟨rfl, S, F, hq, hs, hf, hu, ht⟩
  have FIN := Lib.hid (show CtxR w0 w3 w1.heap.size (grS ts) S F ∧ Below w.heap.size w w3 from by
    have hz := B1.out.size
    have hz0 := BW.out.size
    have hB3 : Below w.heap.size w w3 := (B1.out.trans (B2.out.mono hz)).trans (ht.below (fun k hk => by rw [hk]; exact hz) (Nat.le_trans hz B2.out.size))
    refine ⟨⟨hq, fun k hk => ?_, BW.out.trans (hB3.mono hz0)⟩, hB3⟩
    rcases hs k hk with h | h
    · rw [h]; omega
    · have := B2.out.size; omega)
  clear hq hs hf hu ht CA Q2 WT
  go_wp2_with fail
  go_ret2
  exact ⟨_, S, F, rfl, FIN.out.1, FIN.out.2⟩
set_option maxHeartbeats 800000 in
theorem rFinal_any (g : Nat) (st : List GN) (S F : Nat → Prop) (n : Int) (w : World) (h : RQ g st w S F) (hf : ∀ x ∈ st, x.final = finS x.rests) : Calls Try.prog 92 #[.pointer (some ⟨g, 0, none⟩), .int .i64 n] w fun e w' => e = .returned (.bool (finG st n)) ∧ w = w' := by
  by_cases h0 : n < 0
  · have e : finG st n = false := by unfold finG hasG; rw [decide_eq_false (by omega)]; rfl
    have d1 : decide (n ≥ (0 : Int)) = false := decide_eq_false (by omega)
    have E := Lib.hid e
    clear e
    go_enter Try.func92, Try.ntmps92
    go_wp2_with fail
    go_ret
    rw [E.out]
    exact ⟨rfl, rfl⟩
  obtain ⟨k, rfl⟩ : ∃ k : Nat, n = (k : Int) := ⟨n.toNat, by omega⟩
  have d1 : decide ((k : Int) ≥ (0 : Int)) = true := decide_eq_true (by omega)
  by_cases hk : k < st.length
  · obtain ⟨q, nc, ra, rc, ea, ec, c0, c1, c2, c3, c4, -⟩ := h.node hk
    have hx : st.getD k gn0 ∈ st := by rw [List.getD_eq_getElem?_getD, List.getElem?_eq_getElem hk]; simp
    have e : finG st (k : Int) = finS (st.getD k gn0).rests := by
      unfold finG hasG; rw [decide_eq_true (by omega), Int.toNat_natCast, hf _ hx]; rfl
    obtain ⟨l, hl⟩ : ∃ l, (st.getD k gn0).rests = l := ⟨_, rfl⟩
    rw [hl] at c1 c3 e
    have d2 : decide ((k : Int) < (st.length : Int)) = true := decide_eq_true (by omega)
    have i1 : (0 : Int) ≤ (k : Int) := by omega
    have i2 : (k : Int) < (st.length : Int) := by omega
    have E := Lib.hid e
    clear e hl hx c2 c4 h hf h0
    rcases Nat.eq_zero_or_pos l.length with hz | hz
    · have hl0 : l = [] := List.eq_nil_of_length_eq_zero hz
      subst hl0
      simp only [List.length_nil] at c1
      go_enter Try.func92, Try.ntmps92
      go_wp2_with fail
      go_ret
      rw [E.out]
      exact ⟨rfl, rfl⟩
    · obtain ⟨b, o, rfl, hc⟩ := c3.at hz
      have x0 := hc 0 hz
      obtain ⟨t, ht⟩ : ∃ t, l.getD 0 ByteArray.empty = t := ⟨_, rfl⟩
      rw [ht, Nat.add_zero] at x0
      have d3 : decide ((l.length : Int) > (0 : Int)) = true := decide_eq_true (by omega)
      have i3 : (0 : Int) < (l.length : Int) := by omega
      obtain ⟨zf, hzf⟩ : ∃ z, t.toList.isEmpty = z := ⟨_, rfl⟩
      have hzt2 : (t.toList == []) = zf := by rw [← hzf]; cases t.toList <;> rfl
      have hfz : finS l = zf := by
        rw [← hzf]
        have hs2 : l.head? = some t := by
          cases hs3 : l with
          | nil => rw [hs3] at hz; simp at hz
          | cons t' l' => rw [hs3] at ht; simp at ht; simp [ht]
        unfold finS
        rw [hs2, Bool.eq_iff_iff]
        simp only [decide_eq_true_eq, List.isEmpty_iff]
        constructor
        · intro h; exact (tx_nil t).1 (by injection h)
        · intro h; rw [(tx_nil t).2 h]
      have EZ := Lib.hid (show finG st (k : Int) = zf from by rw [E.out, hfz])
      clear hfz ht hc c3 E
      generalize l.length = m at *
      go_enter Try.func92, Try.ntmps92
      go_wp2_with fail
      go_ret
      rw [EZ.out]
      exact ⟨by first | rfl | (rw [hzt2]; rfl) | (rw [hzf]; rfl) | rw [hzt2] | rw [hzf], rfl⟩
  · obtain ⟨na, nc, c0⟩ := h.len
    have e : finG st (k : Int) = false := by unfold finG hasG; rw [decide_eq_false (by omega)]; rfl
    have d2 : decide ((k : Int) < (st.length : Int)) = false := decide_eq_false (by omega)
    have E := Lib.hid e
    clear e
    go_enter Try.func92, Try.ntmps92
    go_wp2_with fail
    go_ret
    rw [E.out]
    exact ⟨rfl, rfl⟩
end Go.Proofs.Ytbimbgcejeeinaa
/- the document's graph: Next, From -/
namespace Go.Proofs.Ytbimbgcejeeinaa
open Go.RowKit
set_option linter.unusedVariables false
set_option maxRecDepth 20000
theorem from_stop (l m : List Tx) (lo : Tx) (most : Int) (h : most ≤ ((fromL l lo most).length : Int)) : fromL (l ++ m) lo most = fromL l lo most := by
  unfold fromL at *
  rw [List.filter_append]
  have h1 := List.length_take (i := most.toNat) (l := l.filter (fun t => !decide (cmpS t lo < 0)))
  rw [List.take_append_of_le_length (by omega)]
theorem from_snoc (l : List Tx) (x lo : Tx) (most : Int) (h : ((fromL l lo most).length : Int) < most) : fromL (l ++ [x]) lo most = if cmpS x lo < 0 then fromL l lo most else fromL l lo most ++ [x] := by
  unfold fromL at *
  have h1 := List.length_take (i := most.toNat) (l := l.filter (fun t => !decide (cmpS t lo < 0)))
  rw [List.filter_append]
  by_cases hc : cmpS x lo < 0
  · rw [if_pos hc]; simp [hc]
  · rw [if_neg hc, List.take_of_length_le (l := l.filter _) (by omega), List.take_of_length_le]
    · simp [hc]
    · simp [hc]; omega
end Go.Proofs.Ytbimbgcejeeinaa
/- pack: the document's Seal, Encode, Of -/
namespace Go.Proofs.Ytbimbgcejeeinaa
open Go.RowKit
set_option linter.unusedVariables false
set_option maxRecDepth 20000
theorem rSeal_any (a : Option Addr) (n cap : Nat) (bs : List Nat) (w : World) (h : HoldsB w a n bs) (hnil : a = none → n = 0 ∧ cap = 0) (hn : n ≤ 524288) :
    Calls Try.prog 93 #[.slice a n cap] w (RetB 5 w (sealB bs)) := by
  have CS := Lib.hid (rsumOf_any a n cap bs w h (by omega))
  obtain ⟨c, hc⟩ : ∃ c, Crc.sum bs = c := ⟨_, rfl⟩
  have hc32 : c < 4294967296 := by rw [← hc]; exact sum_lt9 bs
  have CP := Lib.hid (rput_any a n cap bs (c : Int) 4 w h hnil hn)
  rw [bits_nat9 c (by omega), show sizeV 4 = 4 from rfl] at CP
  unfold sealB
  rw [hc] at CS ⊢
  obtain ⟨o, ho⟩ : ∃ o, bs ++ Cod.bytesOf c 4 = o := ⟨_, rfl⟩
  rw [ho] at CP ⊢
  clear h hnil hc ho
  go_enter Try.func93, Try.ntmps93
  go_wp2_with fail
  with_reducible refine CS.out.mono ?_
  rintro e w' ⟨rfl, rfl⟩
  go_wp2_with fail
  with_reducible refine CP.out.mono ?_
  rintro e w' ⟨a2, c2, rfl, h1, h2, h3⟩
  have O := Lib.hid h1; have B := Lib.hid h2; have N := Lib.hid h3
  clear h1 h2 h3 CS CP
  go_wp2_with fail
  go_ret
  exact ⟨a2, c2, rfl, O.out, B.out, N.out⟩
/-- bytes that a slice holds, whoever made them -/
structure HB9 (w0 : World) (bs : List Nat) (a : Option Addr) (c : Nat) (w : World) : Prop where
  h : HoldsB w a bs.length bs
  n : a = none → bs.length = 0 ∧ c = 0
  b : Below w0.heap.size w0 w
theorem HB9.more {w0 w w' : World} {bs : List Nat} {a : Option Addr} {c : Nat} (h : HB9 w0 bs a c w) (hb : Below w.heap.size w w') : HB9 w0 bs a c w' := ⟨h.h.below hb, h.n, h.b.trans (hb.mono h.b.size)⟩
theorem rput9 (v : Int) (s : Nat) (si : Int) (hsi : si = (s : Int)) (hs : s ≤ 8) (o : List Nat) {w0 w : World} {bs : List Nat} {a : Option Addr} {c : Nat} (h : HB9 w0 bs a c w) (hl : bs.length ≤ 524288) (ho : bs ++ Cod.bytesOf (bitsV v) s = o) :
    Calls Try.prog 91 #[.slice a bs.length c, .int .i64 v, .int .i64 si] w fun e w' => ∃ a2 c2, e = .returned (.slice a2 o.length c2) ∧ HB9 w0 o a2 c2 w' ∧ Below w.heap.size w w' := by
  subst ho hsi
  refine (rput_any a bs.length c bs v (s : Int) w h.h h.n hl).mono ?_
  rintro e w' ⟨a2, c2, rfl, h1, h2, h3⟩
  have e1 : sizeV (s : Int) = s := by unfold sizeV; omega
  rw [e1] at h1 h3 ⊢
  exact ⟨a2, c2, rfl, ⟨holdsB_of_values (owns_holds h1) (fun x hx => by
    rcases List.mem_append.1 hx with hx | hx
    · exact h.h.2 x hx
    · exact Cod.bytesOf_lt _ _ x hx), h3, h.b.trans (h2.mono h.b.size)⟩, h2⟩
theorem bc2_carry {w w' w'' : World} {p1 i1 p2 i2 : Nat} {v1 v2 : Value} (h : Below w.heap.size w w' ∧ w'.cell? ⟨p1, i1, none⟩ = some v1 ∧ w'.cell? ⟨p2, i2, none⟩ = some v2) (hb : Below w'.heap.size w' w'') : Below w.heap.size w w'' ∧ w''.cell? ⟨p1, i1, none⟩ = some v1 ∧ w''.cell? ⟨p2, i2, none⟩ = some v2 :=
  ⟨h.1.trans (hb.mono h.1.size), (hb.cell (p := ⟨p1, i1, none⟩) (lt_of_cell h.2.1)).trans h.2.1, (hb.cell (p := ⟨p2, i2, none⟩) (lt_of_cell h.2.2)).trans h.2.2⟩
theorem bc2_start {w : World} {p1 i1 p2 i2 : Nat} {v1 v2 : Value} (h1 : w.cell? ⟨p1, i1, none⟩ = some v1) (h2 : w.cell? ⟨p2, i2, none⟩ = some v2) : Below w.heap.size w w.drew ∧ w.drew.cell? ⟨p1, i1, none⟩ = some v1 ∧ w.drew.cell? ⟨p2, i2, none⟩ = some v2 := ⟨(Below.refl _ _).drew, h1, h2⟩
theorem RQ.len9 {g : Nat} {st : List GN} {w : World} {S F : Nat → Prop} (h : RQ g st w S F) : ∃ na nc, w.cell? ⟨g, 0, none⟩ = some (.slice na st.length nc) := by
  obtain ⟨na, nc, NL, B, eq⟩ := h
  have h1 := B.c
  rw [(B.len eq).1] at h1
  exact ⟨na, nc, h1⟩
set_option maxHeartbeats 6400000 in
set_option maxRecDepth 100000 in
theorem rEncode_any (g : Nat) (st : List GN) (S F : Nat → Prop) (w : World) (h : RQ g st w S F) (hf : ∀ x ∈ st, x.final = finS x.rests) (hR : ∀ x ∈ st, ∀ e ∈ x.edges, 0 ≤ e.r ∧ e.r ≤ 2147483647) (hE : ∀ x ∈ st, x.edges.length ≤ 1000) (hS : (bodyB st).length ≤ 524000) (hL : st.length ≤ 60000) :
    Calls Try.prog 56 #[.pointer (some ⟨g, 0, none⟩)] w (RetB 5 w (imgB st)) := by
  have HG := Lib.hid h; have HF := Lib.hid hf; have HR := Lib.hid hR; have HE := Lib.hid hE; have HS := Lib.hid hS
  obtain ⟨na, nc, g0⟩ := h.len9
  obtain ⟨L, hLL⟩ : ∃ L, st.length = L := ⟨_, rfl⟩
  have HL := Lib.hid hLL
  rw [hLL] at hL g0
  have GC := Lib.hid (show ∀ w', Below w.heap.size w w' → w'.cell? ⟨g, 0, none⟩ = some (.slice na L nc) from fun w' hb => (hb.cell (p := ⟨g, 0, none⟩) (lt_of_cell g0)).trans g0)
  have LIT := Lib.hid (show HB9 w [73, 78, 75, 49] (some ⟨w.heap.size, 0, none⟩) 4 (w.alloc (.cells #[.int .u8 73, .int .u8 78, .int .u8 75, .int .u8 49] 5)) from ⟨holdsB_lit w [73, 78, 75, 49] 5 (0, 0) (by decide), fun e => (by cases e), below_one w _⟩)
  have CP0 := Lib.hid (rput9 (L : Int) 2 2 rfl (by omega) ([73, 78, 75, 49] ++ Cod.bytesOf L 2) LIT.out (by decide) (by rw [bits_nat9 L (by omega)]))
  obtain ⟨b0, hb0⟩ : ∃ b0, [73, 78, 75, 49] ++ Cod.bytesOf L 2 = b0 := ⟨_, rfl⟩
  have HB0 := Lib.hid hb0
  rw [hb0] at CP0
  have g1 := GC.out _ LIT.out.b
  clear h hf hE hR hS hLL hb0
  go_enter Try.func56, Try.ntmps56
  go_wp2_with fail
  refine CP0.out.mono ?_
  rintro e w1 ⟨a1, c1, rfl, hh, -⟩
  have O3 := Lib.hid hh
  clear hh CP0 LIT g1 g0
  go_wp2_with fail
  go_loopw [3, 4] (fun bv iv wr => ∃ (j : Nat) (bs : List Nat) (ba : Option Addr) (bc : Nat), j ≤ L ∧ bv = .slice ba bs.length bc ∧ iv = .int .i64 j ∧ Hid (bs ++ (st.drop j).flatMap ndB = bodyB st) ∧ Hid (HB9 w bs ba bc wr)) (fun _ iv _ => L - (intOf iv).toNat)
  case atStart => exact ⟨0, b0, a1, c1, by omega, rfl, rfl, Lib.hid (by rw [List.drop_zero, ← HB0.out, List.append_assoc]; unfold bodyB; rw [HL.out]), O3⟩
  case round =>
    clear O3
    obtain ⟨j, bs, ba, bc, hj, rfl, rfl, hB, hO⟩ := hrel
    have hbl : bs.length ≤ 524000 := by
      have h1 := congrArg List.length hB.out
      rw [List.length_append] at h1
      have := HS.out; omega
    have g0 := GC.out wr hO.out.b
    by_cases hlt : j < L
    · obtain ⟨x, hx⟩ : ∃ x, st.getD j gn0 = x := ⟨_, rfl⟩
      have hmem : x ∈ st := by
        have := HL.out
        rw [← hx, List.getD_eq_getElem?_getD, List.getElem?_eq_getElem (show j < st.length by omega)]
        exact List.getElem_mem _
      have DJ := Lib.hid (show st.drop j = x :: st.drop (j + 1) from by rw [← hx]; exact getD_edges (by rw [HL.out]; exact hlt))
      have ER := Lib.hid (HR.out x hmem)
      have e1 : hasG st (j : Int) = true := by unfold hasG; rw [HL.out]; exact decide_eq_true (by omega)
      have CF := Lib.hid (show Calls Try.prog 92 #[.pointer (some ⟨g, 0, none⟩), .int .i64 (j : Int)] wr fun e w'' => e = .returned (.bool x.final) ∧ wr = w'' from by
        have h1 := rFinal_any g st S F (j : Int) wr (HG.out.below hO.out.b) HF.out
        rw [show finG st (j : Int) = x.final by unfold finG; rw [e1, Bool.true_and, Int.toNat_natCast, hx]] at h1
        exact h1)
      obtain ⟨q, nc2, ra, rc, ea, ec, c0, -, c2, -, c4, -⟩ := HG.out.node (show j < st.length by rw [HL.out]; exact hlt)
      have hml := HE.out x hmem
      rw [hx] at c2 c4
      obtain ⟨m, hm⟩ : ∃ m, x.edges.length = m := ⟨_, rfl⟩
      have HM := Lib.hid hm
      rw [hm] at hml c2 c4
      rw [HL.out] at c0
      have NC := Lib.hid (show ∀ w', Below w.heap.size w w' → w'.cell? ⟨g, 0, none⟩ = some (.slice (some ⟨q, 0, none⟩) L nc2) ∧ w'.cell? ⟨q, j * 2 + 1, none⟩ = some (.slice ea m ec) ∧ HoldsEd w' ea m x.edges from fun w' hb => ⟨(hb.cell (p := ⟨g, 0, none⟩) (lt_of_cell c0)).trans c0, (hb.cell (p := ⟨q, j * 2 + 1, none⟩) (lt_of_cell c2)).trans c2, c4.below hb⟩)
      have n1 : (0 : Int) ≤ (j : Int) := by omega
      have n2 : (j : Int) < (L : Int) := by omega
      obtain ⟨fin, hfin⟩ : ∃ f, x.final = f := ⟨_, rfl⟩
      have HFIN := Lib.hid hfin
      rw [hfin] at CF
      obtain ⟨o1, ho1⟩ : ∃ o1, bs ++ [finN x] = o1 := ⟨_, rfl⟩
      have HO1 := Lib.hid ho1
      have o1l : o1.length = bs.length + 1 := by rw [← ho1, List.length_append]; rfl
      have o1b : o1.length ≤ 524001 := by omega
      obtain ⟨o2, ho2⟩ : ∃ o2, o1 ++ Cod.bytesOf m 2 = o2 := ⟨_, rfl⟩
      have HO2 := Lib.hid ho2
      have CP2 := Lib.hid (fun a2 c2 (w' : World) (h2 : HB9 w o1 a2 c2 w') => rput9 (m : Int) 2 2 rfl (by omega) o2 h2 (by omega) (by rw [bits_nat9 m (by omega)]; exact HO2.out))
      have g3 := (NC.out wr hO.out.b).1
      clear hx hmem e1 hm c0 c2 c4 g0 ho1 ho2 hfin o1l
      go_wp2_with fail
      with_reducible refine CF.out.mono ?_
      rintro e w4 ⟨rfl, rfl⟩
      have N0 := Lib.hid (NC.out wr hO.out.b)
      obtain ⟨fv, CP1, hfv⟩ : ∃ fv : Int, Hid (∀ w', Below wr.heap.size wr w' → Calls Try.prog 91 #[.slice ba bs.length bc, .int .i64 fv, .int .i64 1] w' fun e w'' => ∃ a2 c2, e = .returned (.slice a2 o1.length c2) ∧ HB9 w o1 a2 c2 w'' ∧ Below w'.heap.size w' w'') ∧ ((fin = true ∧ fv = 1) ∨ (fin = false ∧ fv = 0)) := by
        cases fin
        · exact ⟨0, Lib.hid (fun w' hb => rput9 0 1 1 rfl (by omega) o1 (hO.out.more hb) (by omega) (by rw [← HO1.out]; unfold finN; rw [HFIN.out]; rfl)), Or.inr ⟨rfl, rfl⟩⟩
        · exact ⟨1, Lib.hid (fun w' hb => rput9 1 1 1 rfl (by omega) o1 (hO.out.more hb) (by omega) (by rw [← HO1.out]; unfold finN; rw [HFIN.out]; rfl)), Or.inl ⟨rfl, rfl⟩⟩
      have BD := Lib.hid (show o2 ++ ((x.edges.drop 0).flatMap edB ++ (st.drop (j + 1)).flatMap ndB) = bodyB st from by
        rw [← hB.out, DJ.out, List.drop_zero, List.flatMap_cons, ← HO2.out, ← HO1.out]
        unfold ndB
        rw [HM.out]
        simp only [List.append_assoc])
      rcases hfv with ⟨rfl, rfl⟩ | ⟨rfl, rfl⟩
      all_goals
        clear g3
        go_upto_region 8 with fail
        go_region_held3 (fun w' => Below wr.heap.size wr w' ∧ w'.cell? ⟨g, 0, none⟩ = some (.slice (some ⟨q, 0, none⟩) L nc2) ∧ w'.cell? ⟨q, j * 2 + 1, none⟩ = some (.slice ea m ec))
          (first | assumption | exact bc2_start N0.out.1 N0.out.2.1 | exact bc2_carry (by assumption) (by assumption) | fail)
          (first
            | (go_at_call 91; (with_reducible refine (CP1.out _ (And.left (by assumption))).mono ?_); rintro e w' ⟨a2, c2, rfl, hB1, hb9⟩)
            | (go_at_call 91; (with_reducible refine (CP2.out _ _ _ (by assumption)).mono ?_); rintro e w' ⟨a3, c3, rfl, hB2, hb9⟩) | fail)
        all_goals
          have K8 := Lib.hid hB2
          clear CP1 N0
          go_wp2_with fail
          go_loopw [3, 6] (fun bv iv wq => ∃ (k : Nat) (cs : List Nat) (ba : Option Addr) (bc : Nat), k ≤ m ∧ bv = .slice ba cs.length bc ∧ iv = .int .i64 k ∧ Hid (cs ++ ((x.edges.drop k).flatMap edB ++ (st.drop (j + 1)).flatMap ndB) = bodyB st) ∧ Hid (HB9 w cs ba bc wq)) (fun _ iv _ => m - (intOf iv).toNat)
          case atStart => exact ⟨0, o2, _, _, by omega, rfl, rfl, BD, K8⟩
          case round =>
            clear K8 BD hB2 CP2
            obtain ⟨k, cs, ba, bc, hk, rfl, rfl, hB, hK⟩ := hrel
            rename World => wq
            have hcl : cs.length ≤ 524000 := by
              have h1 := congrArg List.length hB.out
              rw [List.length_append] at h1
              have := HS.out; omega
            obtain ⟨g5, g6, he⟩ := NC.out wq hK.out.b
            by_cases hkm : k < m
            · obtain ⟨eb, eo, rfl, hcc⟩ := he.at (by omega)
              obtain ⟨y0, y1⟩ := hcc k hkm
              obtain ⟨y, hy⟩ : ∃ y, x.edges.getD k ed0 = y := ⟨_, rfl⟩
              rw [hy] at y0 y1
              have DK := Lib.hid (show x.edges.drop k = y :: x.edges.drop (k + 1) from by rw [← hy]; exact drop_ed9 (show k < x.edges.length by rw [HM.out]; exact hkm))
              have hkx : k < x.edges.length := by rw [HM.out]; exact hkm
              obtain ⟨yr, yr2⟩ := ER.out y (by rw [← hy, List.getD_eq_getElem?_getD, List.getElem?_eq_getElem hkx]; exact List.getElem_mem _)
              clear hkx
              have wy : IntKind.i64.wrap y.r = y.r := by rw [IntKind.wrap_i64]; omega
              have n3 : (0 : Int) ≤ (k : Int) := by omega
              have n4 : (k : Int) < (m : Int) := by omega
              obtain ⟨o3, ho3⟩ : ∃ o3, cs ++ Cod.bytesOf (bitsV y.r) 4 = o3 := ⟨_, rfl⟩
              obtain ⟨o4, ho4⟩ : ∃ o4, o3 ++ Cod.bytesOf (bitsV y.dst) 2 = o4 := ⟨_, rfl⟩
              have o3l : o3.length ≤ 524004 := by rw [← ho3, List.length_append, Cod.bytesOf_length]; omega
              have BD := Lib.hid (show o4 ++ ((x.edges.drop (k + 1)).flatMap edB ++ (st.drop (j + 1)).flatMap ndB) = bodyB st from by
                rw [← hB.out, DK.out, List.flatMap_cons, ← ho4, ← ho3]
                unfold edB
                simp only [List.append_assoc])
              have K5 := Lib.hid (hK.out.more (below_one wq (.cells #[.int .i32 y.r, .int .i64 y.dst] 115)))
              have X5 := Lib.hid (show (wq.alloc (.cells #[.int .i32 y.r, .int .i64 y.dst] 115)).cell? ⟨wq.heap.size, 0, none⟩ = some (.int .i32 y.r) ∧ (wq.alloc (.cells #[.int .i32 y.r, .int .i64 y.dst] 115)).cell? ⟨wq.heap.size, 1, none⟩ = some (.int .i64 y.dst) from ⟨by rw [cell_alloc rfl]; rfl, by rw [cell_alloc rfl]; rfl⟩)
              have CP3 := Lib.hid (fun w' (hb : Below (wq.alloc (.cells #[.int .i32 y.r, .int .i64 y.dst] 115)).heap.size (wq.alloc (.cells #[.int .i32 y.r, .int .i64 y.dst] 115)) w') => rput9 y.r 4 4 rfl (by omega) o3 (K5.out.more hb) (by omega) ho3)
              have CP4 := Lib.hid (fun a2 c2 (w' : World) (h2 : HB9 w o3 a2 c2 w') => rput9 y.dst 2 2 rfl (by omega) o4 h2 (by omega) ho4)
              clear hcc hy he ho3 ho4
              go_upto_region 13 with fail
              generalize wq.alloc (.cells #[.int .i32 y.r, .int .i64 y.dst] 115) = w5 at *
              generalize wq.heap.size = p5 at *
              go_region_held3 (fun w' => Below w5.heap.size w5 w' ∧ w'.cell? ⟨p5, 0, none⟩ = some (.int .i32 y.r) ∧ w'.cell? ⟨p5, 1, none⟩ = some (.int .i64 y.dst))
                (first | assumption | exact bc2_start X5.out.1 X5.out.2 | exact bc2_carry (by assumption) (by assumption) | fail)
                (first
                  | (go_at_call 91; (with_reducible refine (CP3.out _ (And.left (by assumption))).mono ?_); rintro e w' ⟨a2, c2, rfl, hB1, hb9⟩)
                  | (go_at_call 91; (with_reducible refine (CP4.out _ _ _ (by assumption)).mono ?_); rintro e w' ⟨a3, c3, rfl, hB2, hb9⟩) | fail)
              all_goals
                have K9 := Lib.hid hB2
                clear CP3 CP4 X5 K5
                go_wp2_with fail
                go_roundw
                case rel => exact ⟨k + 1, o4, _, _, by omega, rfl, by go_num, BD, K9⟩
                case measure => simp [intOf] <;> omega
            · obtain rfl : k = m := by omega
              have BE := Lib.hid (show cs ++ (st.drop (j + 1)).flatMap ndB = bodyB st from by
                rw [← hB.out, show x.edges.drop k = [] from List.drop_of_length_le (by rw [HM.out]; exact Nat.le_refl _)]; rfl)
              clear hB he
              go_wp2_with fail
              go_roundw
              case rel => exact ⟨j + 1, cs, ba, bc, by omega, rfl, by go_num, BE, hK⟩
              case measure => simp [intOf] <;> omega
    · obtain rfl : j = L := by omega
      have BE := Lib.hid (show bs = bodyB st from by
        have h1 := hB.out
        rw [List.drop_of_length_le (by rw [HL.out]; omega)] at h1
        simpa using h1)
      have CS := Lib.hid (rSeal_any ba bs.length bc bs wr hO.out.h hO.out.n (by omega))
      have IM := Lib.hid (show sealB bs = imgB st from by rw [BE.out]; rfl)
      have WB := Lib.hid hO.out.b
      clear hO hB BE
      go_wp2_with fail
      with_reducible refine CS.out.mono ?_
      rintro e w5 ⟨a5, c5, rfl, h1, h2, h3⟩
      have F := Lib.hid (show RetB 5 w (imgB st) (.returned (.slice a5 (sealB bs).length c5)) w5 from by
        rw [IM.out] at h1 h3 ⊢
        exact ⟨a5, c5, rfl, base_less9 h1 WB.out.size, WB.out.trans (h2.mono WB.out.size), h3⟩)
      clear h1 h2 h3 CS
      go_wp2_with fail
      go_ret
      exact F.out
end Go.Proofs.Ytbimbgcejeeinaa
