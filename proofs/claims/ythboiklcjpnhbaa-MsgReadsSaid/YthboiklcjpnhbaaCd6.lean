/- contracts of code: a text read -/
import Derived.Test.YthboiklcjpnhbaaCd5
import Derived.Test.YthboiklcjpnhbaaStrB
import Derived.Laws.BytesArg
import Derived.Lib.SlBytesRow
namespace Go.Proofs.Ythboiklcjpnhbaa
open Go.RowKit
set_option linter.unusedVariables false
set_option maxRecDepth 20000
/-- the text of bytes -/
def strN (bs : List Nat) : ByteArray := strOfNums (bs.map fun b : Nat => (b : Int))
theorem strN_nil : strN [] = ⟨#[]⟩ := rfl
theorem run_conv_bytes {P : Program} (w : World) (src e dst : TypeId) (hs : P.underlying src = some (.slice e)) (he : P.underlying e = some (.int .u8)) (hd : P.underlying dst = some .string) (a : Option Addr) (n cap : Nat) (bs : List Nat) (h : HoldsB w a n bs) :
    (convert src dst (.slice a n cap)).run P w = .ok (.string (strN bs)) w := by
  have hl := h.len
  rcases Nat.eq_zero_or_pos n with h0 | h0
  · subst h0
    obtain rfl := List.eq_nil_of_length_eq_zero hl
    rw [run_convert_bytes_string w src dst e a 0 cap hs he hd]
    cases a with
    | none => simp [Conv.bytesToString]; rfl
    | some ad => simp [Conv.bytesToString]; rfl
  · obtain ⟨b, o, rfl, hc⟩ := h.at h0
    exact run_convert_bytes_arg (P := P) w src e hs he b o n cap (bs.map fun b : Nat => (b : Int)) (by simpa using hl) (fun i hi => by rw [hc i (by simpa [hl] using hi), getD_map_cast]) dst hd
/-- the bytes of the text at k -/
def textN (bs : List Nat) (k : Nat) : List Nat := (bs.take (k + 2 + numN bs k 2)).drop (k + 2)

theorem ret_mid {u v : Value} {x y : Int} (h : x = y) : Ending.returned (.tuple #[u, .int .i64 x, v]) = .returned (.tuple #[u, .int .i64 y, v]) := by rw [h]

set_option maxHeartbeats 800000 in
theorem text_yes (a : Option Addr) (n cap : Nat) (bs : List Nat) (k : Nat) (w : World) (h : HoldsB w a n bs) (hn : n ≤ 4611686018427387904) (hcap : n ≤ cap) (hk : k + 2 + numN bs k 2 ≤ n) :
    Calls Try.prog 104 #[.slice a n cap, .int .i64 k] w fun e w' => e = .returned (.tuple #[.string (strN (textN bs k)), .int .i64 ((k + 2 + numN bs k 2 : Nat) : Int), .bool true]) ∧ w = w' := by
  obtain ⟨b, o, rfl, hcell⟩ := h.at (by omega)
  have hl := h.len
  have hm6 := numN_lt bs k 2 h.2 (by omega)
  have hm7 : numN bs k 2 < 65536 := hm6
  have hnum := num_yes (some ⟨b, o, none⟩) n cap bs k 2 w h (by omega) (by omega) (by omega) (by omega)
  have hconv : ∀ c, (convert 39 9 (.slice (some ⟨b, o + (k + 2), none⟩) (numN bs k 2) c)).run Try.prog w = .ok (.string (strN (textN bs k))) w := fun c =>
    run_conv_bytes w 39 5 9 Try.underlying39 Try.underlying5 Try.underlying9 _ _ c _ (h.part (k + 2) (k + 2 + numN bs k 2) (by omega) (by omega) (numN bs k 2) (by omega))
  have hconv0 : cap = k + 2 → ∀ c, (convert 39 9 (.slice (some ⟨b, o, none⟩) 0 c)).run Try.prog w = .ok (.string (strN (textN bs k))) w := by
    intro e c
    have hz : textN bs k = [] := by
      apply List.eq_nil_of_length_eq_zero; unfold textN; simp; omega
    rw [hz]
    exact run_conv_bytes w 39 5 9 Try.underlying39 Try.underlying5 Try.underlying9 _ 0 c [] (holdsB_nil _ _)
  have hwr : wrap64 ((numN bs k 2 : Nat) : Int) = ((numN bs k 2 : Nat) : Int) := IntWalk.wrap64_in _ ⟨by omega, by omega⟩
  rw [hwr] at hnum
  obtain ⟨T, hT⟩ : ∃ T, strN (textN bs k) = T := ⟨_, rfl⟩
  rw [hT] at hconv hconv0 ⊢
  obtain ⟨m, hm⟩ : ∃ m, numN bs k 2 = m := ⟨_, rfl⟩
  rw [hm] at hnum hconv hm7 hk ⊢
  clear hT hm hm6 hwr hcell hl h
  have HNUM := Lib.hid hnum
  clear hnum
  by_cases hc : cap = k + 2
  · obtain rfl : m = 0 := by omega
    obtain rfl : n = k + 2 := by omega
    have hv := hconv0 hc
    subst hc
    clear hconv hconv0 hk hcap hm7
    go_enter Try.func104, Try.ntmps104
    go_wp2_with fail
    refine HNUM.out.mono ?_
    rintro e w' ⟨rfl, rfl⟩
    go_wp2_with fail
    go_ret3
    exact ⟨ret_mid (by omega), rfl⟩
  · have hv := hconv
    clear hconv hconv0
    go_enter Try.func104, Try.ntmps104
    go_wp2_with fail
    refine HNUM.out.mono ?_
    rintro e w' ⟨rfl, rfl⟩
    go_wp2_with fail
    go_ret3
    exact ⟨ret_mid (by omega), rfl⟩

theorem text_none (a : Option Addr) (n cap : Nat) (k : Int) (w : World) (hn : n ≤ 4611686018427387904) (hk : k ≤ 9223372036854775807) (hno : ¬ (0 ≤ k ∧ k + 2 ≤ n)) :
    Calls Try.prog 104 #[.slice a n cap, .int .i64 k] w fun e w' => e = .returned (.tuple #[.string ⟨#[]⟩, .int .i64 0, .bool false]) ∧ w = w' := by
  have hnum := num_no a n cap k 2 w (by omega) hk (by omega)
  have HNUM := Lib.hid hnum
  clear hnum
  go_enter Try.func104, Try.ntmps104
  go_wp2_with fail
  refine HNUM.out.mono ?_
  rintro e w' ⟨rfl, rfl⟩
  go_wp2_with fail
  go_ret3
  exact ⟨rfl, rfl⟩
theorem text_far (a : Option Addr) (n cap : Nat) (bs : List Nat) (k : Nat) (w : World) (h : HoldsB w a n bs) (hn : n ≤ 4611686018427387904) (hk : k + 2 ≤ n) (hno : n < k + 2 + numN bs k 2) :
    Calls Try.prog 104 #[.slice a n cap, .int .i64 k] w fun e w' => e = .returned (.tuple #[.string ⟨#[]⟩, .int .i64 0, .bool false]) ∧ w = w' := by
  have hl := h.len
  have hm6 := numN_lt bs k 2 h.2 (by omega)
  have hm7 : numN bs k 2 < 65536 := hm6
  have hnum := num_yes a n cap bs k 2 w h (by omega) (by omega) (by omega) (by omega)
  have hwr : wrap64 ((numN bs k 2 : Nat) : Int) = ((numN bs k 2 : Nat) : Int) := IntWalk.wrap64_in _ ⟨by omega, by omega⟩
  rw [hwr] at hnum
  obtain ⟨m, hm⟩ : ∃ m, numN bs k 2 = m := ⟨_, rfl⟩
  rw [hm] at hnum hm7 hno
  clear hm hm6 hwr hl h
  have HNUM := Lib.hid hnum
  clear hnum
  go_enter Try.func104, Try.ntmps104
  go_wp2_with fail
  refine HNUM.out.mono ?_
  rintro e w' ⟨rfl, rfl⟩
  go_wp2_with fail
  go_ret3
  exact ⟨rfl, rfl⟩

set_option maxHeartbeats 800000 in
theorem rtext_yes (a : Option Addr) (n cap : Nat) (bs : List Nat) (k : Nat) (w : World) (h : HoldsB w a n bs) (hn : n ≤ 4611686018427387904) (hcap : n ≤ cap) (hk : k + 2 + numN bs k 2 ≤ n) :
    Calls Try.prog 99 #[.slice a n cap, .int .i64 k] w fun e w' => e = .returned (.tuple #[.string (strN (textN bs k)), .int .i64 ((k + 2 + numN bs k 2 : Nat) : Int), .bool true]) ∧ w = w' := by
  obtain ⟨b, o, rfl, hcell⟩ := h.at (by omega)
  have hl := h.len
  have hm6 := numN_lt bs k 2 h.2 (by omega)
  have hm7 : numN bs k 2 < 65536 := hm6
  have hnum := rnum_yes (some ⟨b, o, none⟩) n cap bs k 2 w h (by omega) (by omega) (by omega) (by omega)
  have hconv : ∀ c, (convert 39 9 (.slice (some ⟨b, o + (k + 2), none⟩) (numN bs k 2) c)).run Try.prog w = .ok (.string (strN (textN bs k))) w := fun c =>
    run_conv_bytes w 39 5 9 Try.underlying39 Try.underlying5 Try.underlying9 _ _ c _ (h.part (k + 2) (k + 2 + numN bs k 2) (by omega) (by omega) (numN bs k 2) (by omega))
  have hconv0 : cap = k + 2 → ∀ c, (convert 39 9 (.slice (some ⟨b, o, none⟩) 0 c)).run Try.prog w = .ok (.string (strN (textN bs k))) w := by
    intro e c
    have hz : textN bs k = [] := by
      apply List.eq_nil_of_length_eq_zero; unfold textN; simp; omega
    rw [hz]
    exact run_conv_bytes w 39 5 9 Try.underlying39 Try.underlying5 Try.underlying9 _ 0 c [] (holdsB_nil _ _)
  have hwr : wrap64 ((numN bs k 2 : Nat) : Int) = ((numN bs k 2 : Nat) : Int) := IntWalk.wrap64_in _ ⟨by omega, by omega⟩
  rw [hwr] at hnum
  obtain ⟨T, hT⟩ : ∃ T, strN (textN bs k) = T := ⟨_, rfl⟩
  rw [hT] at hconv hconv0 ⊢
  obtain ⟨m, hm⟩ : ∃ m, numN bs k 2 = m := ⟨_, rfl⟩
  rw [hm] at hnum hconv hm7 hk ⊢
  clear hT hm hm6 hwr hcell hl h
  have HNUM := Lib.hid hnum
  clear hnum
  by_cases hc : cap = k + 2
  · obtain rfl : m = 0 := by omega
    obtain rfl : n = k + 2 := by omega
    have hv := hconv0 hc
    subst hc
    clear hconv hconv0 hk hcap hm7
    go_enter Try.func99, Try.ntmps99
    go_wp2_with fail
    refine HNUM.out.mono ?_
    rintro e w' ⟨rfl, rfl⟩
    go_wp2_with fail
    go_ret3
    exact ⟨ret_mid (by omega), rfl⟩
  · have hv := hconv
    clear hconv hconv0
    go_enter Try.func99, Try.ntmps99
    go_wp2_with fail
    refine HNUM.out.mono ?_
    rintro e w' ⟨rfl, rfl⟩
    go_wp2_with fail
    go_ret3
    exact ⟨ret_mid (by omega), rfl⟩

theorem rtext_none (a : Option Addr) (n cap : Nat) (k : Int) (w : World) (hn : n ≤ 4611686018427387904) (hk : k ≤ 9223372036854775807) (hno : ¬ (0 ≤ k ∧ k + 2 ≤ n)) :
    Calls Try.prog 99 #[.slice a n cap, .int .i64 k] w fun e w' => e = .returned (.tuple #[.string ⟨#[]⟩, .int .i64 0, .bool false]) ∧ w = w' := by
  have hnum := rnum_no a n cap k 2 w (by omega) (by omega)
  have HNUM := Lib.hid hnum
  clear hnum
  go_enter Try.func99, Try.ntmps99
  go_wp2_with fail
  refine HNUM.out.mono ?_
  rintro e w' ⟨rfl, rfl⟩
  go_wp2_with fail
  go_ret3
  exact ⟨rfl, rfl⟩
theorem rtext_far (a : Option Addr) (n cap : Nat) (bs : List Nat) (k : Nat) (w : World) (h : HoldsB w a n bs) (hn : n ≤ 4611686018427387904) (hk : k + 2 ≤ n) (hno : n < k + 2 + numN bs k 2) :
    Calls Try.prog 99 #[.slice a n cap, .int .i64 k] w fun e w' => e = .returned (.tuple #[.string ⟨#[]⟩, .int .i64 0, .bool false]) ∧ w = w' := by
  have hl := h.len
  have hm6 := numN_lt bs k 2 h.2 (by omega)
  have hm7 : numN bs k 2 < 65536 := hm6
  have hnum := rnum_yes a n cap bs k 2 w h (by omega) (by omega) (by omega) (by omega)
  have hwr : wrap64 ((numN bs k 2 : Nat) : Int) = ((numN bs k 2 : Nat) : Int) := IntWalk.wrap64_in _ ⟨by omega, by omega⟩
  rw [hwr] at hnum
  obtain ⟨m, hm⟩ : ∃ m, numN bs k 2 = m := ⟨_, rfl⟩
  rw [hm] at hnum hm7 hno
  clear hm hm6 hwr hl h
  have HNUM := Lib.hid hnum
  clear hnum
  go_enter Try.func99, Try.ntmps99
  go_wp2_with fail
  refine HNUM.out.mono ?_
  rintro e w' ⟨rfl, rfl⟩
  go_wp2_with fail
  go_ret3
  exact ⟨rfl, rfl⟩
end Go.Proofs.Ythboiklcjpnhbaa
