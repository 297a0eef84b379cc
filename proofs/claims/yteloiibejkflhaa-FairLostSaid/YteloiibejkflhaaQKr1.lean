/- the laws of cuts: a greater key -/
import Derived.Test.YteloiibejkflhaaQKp8
namespace Go.Proofs.Yteloiibejkflhaa
open Go.RowKit
set_option linter.unusedVariables false
set_option maxRecDepth 20000
theorem findIdx_mono {α : Type} (p q : α → Bool) (h : ∀ x, q x = true → p x = true) : ∀ xs : List α, xs.findIdx p ≤ xs.findIdx q
  | [] => by simp
  | x :: xs => by
    rw [List.findIdx_cons, List.findIdx_cons]
    cases hq : q x with
    | true => simp [h x hq]
    | false =>
      cases hp : p x with
      | true => simp
      | false => simpa using findIdx_mono p q h xs
theorem ofN_mono (ks : List KV) {x y : KV} (h : ordK x y < 0) : ofN ks x ≤ ofN ks y :=
  findIdx_mono _ _ (fun c hc => by rw [decide_eq_true_iff] at *; exact ordK_trans h hc) ks
theorem ofZ_word {ks : List KV} {t : Tx} (h : wordP t) : ofZ ks t = ofN ks (keyOf t) := if_pos h
theorem lenl_any (t : Tx) (l : Int) (w : World) (ht : t.size ≤ 9223372036854775807) (hl : lenS t = l) :
    Calls Try.prog 40 #[.string t] w fun e w' => e = .returned (.int .i64 l) ∧ Below w.heap.size w w' := by subst hl; exact len_any t w ht
end Go.Proofs.Yteloiibejkflhaa
