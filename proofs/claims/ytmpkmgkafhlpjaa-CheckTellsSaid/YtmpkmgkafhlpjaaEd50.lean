/- what every program answers that is one: edit; how long lists are -/
import Derived.Test.YtmpkmgkafhlpjaaEd4
import Derived.Test.YtmpkmgkafhlpjaaEd3
namespace Go.Proofs.Ytmpkmgkafhlpjaa
open Go.RowKit
set_option linter.unusedVariables false
set_option maxRecDepth 20000
theorem holdsI_lit (k : IntKind) (w : World) (zs : List Int) (e : TypeId) (fr : Nat × Nat) : HoldsI k (w.alloc (.cells (zs.map (Value.int k)).toArray e fr)) (some ⟨w.heap.size, 0, none⟩) zs.length zs := by
  refine ⟨rfl, fun _ => ⟨_, _, rfl, fun i hi => ?_⟩⟩
  rw [World.cell?_alloc_mark, Nat.zero_add]
  simp [List.getD_eq_getElem?_getD, hi]
theorem holdsI_nil (k : IntKind) (w : World) (a : Option Addr) : HoldsI k w a 0 [] := ⟨rfl, fun h => absurd h (by decide)⟩
theorem own_holdsI {w : World} {base : Nat} {e : TypeId} {a : Option Addr} {n c : Nat} {zs : List Int} (h : w.ownsRow base e 1 (.slice a n c) n (intsV zs)) : HoldsI .i64 w a n zs := by
  have hv := owns_holds h
  have hl : zs.length = n := by have := h.1; simpa [intsV] using this
  refine ⟨hl, fun h0 => ?_⟩
  obtain ⟨b, o, ha, hc⟩ := hv.2 h0
  exact ⟨b, o, ha, fun i hi => by rw [hc i hi, intsV, getD_map_int .i64 zs i (by omega)]⟩
theorem dist_one : distS { data := #[97, 98, 99] } { data := #[97, 120, 99, 100] } = 2 := by
  have l1 : lenS { data := #[97, 98, 99] } = 3 := by decide +kernel
  have l2 : lenS { data := #[97, 120, 99, 100] } = 4 := by decide +kernel
  have r1 : intsN (runesS { data := #[97, 98, 99] }) = [97, 98, 99] := by decide +kernel
  have r2 : intsN (runesS { data := #[97, 120, 99, 100] }) = [97, 120, 99, 100] := by decide +kernel
  have n1 : (runesS { data := #[97, 98, 99] }).length = 3 := by decide +kernel
  have n2 : (runesS { data := #[97, 120, 99, 100] }).length = 4 := by decide +kernel
  unfold distS
  rw [l1, l2, r1, r2, n1, n2, if_pos (by decide)]
  have h0 : Ed.row [97, 98, 99] [97, 120, 99, 100] 0 = [0, 1, 2, 3] := by rw [← upTo_row]; decide
  have h1 : Ed.row [97, 98, 99] [97, 120, 99, 100] 1 = [1, 0, 1, 2] := by rw [← Ed.mix_all _ _ 0, h0]; decide
  have h2 : Ed.row [97, 98, 99] [97, 120, 99, 100] 2 = [2, 1, 1, 2] := by rw [← Ed.mix_all _ _ 1, h1]; decide
  have h3 : Ed.row [97, 98, 99] [97, 120, 99, 100] 3 = [3, 2, 2, 1] := by rw [← Ed.mix_all _ _ 2, h2]; decide
  have h4 : Ed.row [97, 98, 99] [97, 120, 99, 100] 4 = [4, 3, 3, 2] := by rw [← Ed.mix_all _ _ 3, h3]; decide
  rw [← Ed.row_getD _ _ 4 3 (by decide), h4]
  rfl
theorem dist_two : distS { data := #[97] } { data := #[255] } = -1 := by
  have l2 : lenS { data := #[255] } = -1 := by decide +kernel
  unfold distS
  rw [l2, if_neg (by omega)]
theorem row_three : Ed.row [97, 98] [98] 1 = [1, 1, 1] := by
  have h0 : Ed.row [97, 98] [98] 0 = [0, 1, 2] := by rw [← upTo_row]; decide
  rw [← Ed.mix_all _ _ 0, h0]; decide
theorem rows_lit (ra rb : List Int) (m n : Nat) (a b : Option Addr) (ca cb : Nat) (w : World) (hm : ra.length = m) (hn : rb.length = n) (ha : HoldsI .i32 w a m ra) (hb : HoldsI .i32 w b n rb) (hla : m ≤ 1048576) (hlb : n ≤ 1048576) :
    Calls Try.prog 65 #[.slice a m ca, .slice b n cb] w fun e w' => e = .returned (.slice (some ⟨w.heap.size, 0, none⟩) (m + 1) (m + 1)) ∧ w'.ownsRow w.heap.size 3 1 (.slice (some ⟨w.heap.size, 0, none⟩) (m + 1) (m + 1)) (m + 1) (intsV (Ed.row ra rb n)) ∧ Below w.heap.size w w' := by
  subst hm hn; exact rows_any ra rb a b ca cb w ha hb hla hlb
end Go.Proofs.Ytmpkmgkafhlpjaa
