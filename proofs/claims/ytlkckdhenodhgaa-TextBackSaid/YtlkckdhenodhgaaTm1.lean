/- a rune's bytes: the document's; which runes are valid -/
import Derived.Test.YtlkckdhenodhgaaTp5
import Derived.Lib.RuneBytes
namespace Go.Proofs.Ytlkckdhenodhgaa
open Go.RowKit
set_option linter.unusedVariables false
def encS (r : Int) : ByteArray := ⟨(Lib.encodeRune r).toArray⟩
theorem encS_nums (r : Int) (l : List Int) (h : Lib.encodeRuneZ r = l) : strOfNums l = encS r := by
  subst h; rfl
theorem conv_lit (w : World) (xs : List Int) (n : Nat) (hn : xs.length = n) (h0 : 0 < n) : (convert 39 9 (.slice (some ⟨w.heap.size, 0, none⟩) n n)).run Try.prog (w.alloc (.cells (xs.map (Value.int .u8)).toArray 5)) = .ok (.string (strOfNums xs)) (w.alloc (.cells (xs.map (Value.int .u8)).toArray 5)) := by
  refine run_convert_bytes_arg (P := Try.prog) _ 39 5 Try.underlying39 Try.underlying5 w.heap.size 0 n n xs hn (fun i hi => ?_) 9 Try.underlying9
  show (w.alloc (.cells (xs.map (Value.int .u8)).toArray 5)).cell? _ = _
  rw [Nat.zero_add, World.cell?_alloc_mark]
  simp [List.getD_eq_getElem?_getD, hn, hi]
set_option maxHeartbeats 1600000 in
theorem bytes_any (r : Int) (w : World) (h : goodP r) :
    Calls Try.prog 35 #[.int .i32 r] w fun e w' => e = .returned (.string (encS r)) ∧ Below w.heap.size w w' := by
  have hc : r < 128 ∨ (128 ≤ r ∧ r < 2048) ∨ (2048 ≤ r ∧ r < 65536) ∨ 65536 ≤ r := by omega
  obtain ⟨g0, g1, g2, g3⟩ := h
  rcases hc with h | ⟨h, h2⟩ | ⟨h, h2⟩ | h
  · have hconv := conv_lit w [r] 1 rfl (by omega)
    have E := Lib.hid (encS_nums r _ (Lib.encodeRuneZ_one g0 (by omega)))
    dsimp only [List.map] at hconv
    go_enter Try.func35, Try.ntmps35
    go_wp2_with fail
    go_ret
    exact ⟨(show Ending.returned (Value.string _) = .returned (Value.string _) by rw [E.out]), below_one _ _⟩
  · have hconv := conv_lit w [192 + r / 64, 128 + r % 64] 2 rfl (by omega)
    have E := Lib.hid (encS_nums r _ (Lib.encodeRuneZ_two (by omega) (by omega)))
    dsimp only [List.map] at hconv
    go_enter Try.func35, Try.ntmps35
    go_wp2_with fail
    go_ret
    exact ⟨(show Ending.returned (Value.string _) = .returned (Value.string _) by rw [E.out]), below_one _ _⟩
  · have hconv := conv_lit w [224 + r / 4096, 128 + r / 64 % 64, 128 + r % 64] 3 rfl (by omega)
    have E := Lib.hid (encS_nums r _ (Lib.encodeRuneZ_three (by omega)))
    dsimp only [List.map] at hconv
    go_enter Try.func35, Try.ntmps35
    go_wp2_with fail
    go_ret
    exact ⟨(show Ending.returned (Value.string _) = .returned (Value.string _) by rw [E.out]), below_one _ _⟩
  · have hconv := conv_lit w [240 + r / 262144, 128 + r / 4096 % 64, 128 + r / 64 % 64, 128 + r % 64] 4 rfl (by omega)
    have E := Lib.hid (encS_nums r _ (Lib.encodeRuneZ_four (by omega) (by omega)))
    dsimp only [List.map] at hconv
    go_enter Try.func35, Try.ntmps35
    go_wp2_with fail
    go_ret
    exact ⟨(show Ending.returned (Value.string _) = .returned (Value.string _) by rw [E.out]), below_one _ _⟩
theorem valid_any (r : Int) (w : World) : Calls Try.prog 32 #[.int .i32 r] w fun e w' => e = .returned (.bool (decide (0 ≤ r ∧ r ≤ 1114111 ∧ (r < 55296 ∨ 57343 < r)))) ∧ w = w' := by
  have hc : r < 0 ∨ (0 ≤ r ∧ r < 55296) ∨ (55296 ≤ r ∧ r ≤ 57343) ∨ (57343 < r ∧ r ≤ 1114111) ∨ 1114111 < r := by omega
  rcases hc with h | h | h | h | h
  · rw [decide_eq_false (by omega)]
    go_enter Try.func32, Try.ntmps32
    go_wp2
    go_ret
    exact ⟨rfl, rfl⟩
  · rw [decide_eq_true (by omega)]
    go_enter Try.func32, Try.ntmps32
    go_wp2
    go_ret
    exact ⟨rfl, rfl⟩
  · rw [decide_eq_false (by omega)]
    go_enter Try.func32, Try.ntmps32
    go_wp2
    go_ret
    exact ⟨rfl, rfl⟩
  · rw [decide_eq_true (by omega)]
    go_enter Try.func32, Try.ntmps32
    go_wp2
    go_ret
    exact ⟨rfl, rfl⟩
  · rw [decide_eq_false (by omega)]
    go_enter Try.func32, Try.ntmps32
    go_wp2
    go_ret
    exact ⟨rfl, rfl⟩
end Go.Proofs.Ytlkckdhenodhgaa
