/- rank: what every program answers that is one; how long items are; items written over -/
import Derived.Test.YtmpkmgkafhlpjaaRk5
import Derived.Test.YtmpkmgkafhlpjaaPairItems
import Derived.Test.YtmpkmgkafhlpjaaWa1
namespace Go.Proofs.Ytmpkmgkafhlpjaa
open Go.RowKit
set_option linter.unusedVariables false
set_option maxRecDepth 20000
theorem d_ab_ab : distS { data := #[97, 98] } { data := #[97, 98] } = 0 := by
  have l1 : lenS { data := #[97, 98] } = 2 := by decide +kernel
  have r1 : intsN (runesS { data := #[97, 98] }) = [97, 98] := by decide +kernel
  have n1 : (runesS { data := #[97, 98] }).length = 2 := by decide +kernel
  unfold distS
  rw [l1, r1, n1, if_pos (by decide)]
  have h0 : Ed.row [97, 98] [97, 98] 0 = [0, 1, 2] := by rw [← upTo_row]; decide
  have h1 : Ed.row [97, 98] [97, 98] 1 = [1, 0, 1] := by rw [← Ed.mix_all _ _ 0, h0]; decide
  have h2 : Ed.row [97, 98] [97, 98] 2 = [2, 1, 0] := by rw [← Ed.mix_all _ _ 1, h1]; decide
  rw [← Ed.row_getD _ _ 2 2 (by decide), h2]
  rfl
theorem d_abc_ab : distS { data := #[97, 98, 99] } { data := #[97, 98] } = 1 := by
  have l1 : lenS { data := #[97, 98] } = 2 := by decide +kernel
  have r1 : intsN (runesS { data := #[97, 98] }) = [97, 98] := by decide +kernel
  have n1 : (runesS { data := #[97, 98] }).length = 2 := by decide +kernel
  have l2 : lenS { data := #[97, 98, 99] } = 3 := by decide +kernel
  have r2 : intsN (runesS { data := #[97, 98, 99] }) = [97, 98, 99] := by decide +kernel
  have n2 : (runesS { data := #[97, 98, 99] }).length = 3 := by decide +kernel
  unfold distS
  rw [l1, r1, n1, l2, r2, n2, if_pos (by decide)]
  have h0 : Ed.row [97, 98, 99] [97, 98] 0 = [0, 1, 2, 3] := by rw [← upTo_row]; decide
  have h1 : Ed.row [97, 98, 99] [97, 98] 1 = [1, 0, 1, 2] := by rw [← Ed.mix_all _ _ 0, h0]; decide
  have h2 : Ed.row [97, 98, 99] [97, 98] 2 = [2, 1, 0, 1] := by rw [← Ed.mix_all _ _ 1, h1]; decide
  rw [← Ed.row_getD _ _ 2 3 (by decide), h2]
  rfl
theorem d_b_ab : distS { data := #[98] } { data := #[97, 98] } = 1 := by
  have l1 : lenS { data := #[97, 98] } = 2 := by decide +kernel
  have r1 : intsN (runesS { data := #[97, 98] }) = [97, 98] := by decide +kernel
  have n1 : (runesS { data := #[97, 98] }).length = 2 := by decide +kernel
  have l2 : lenS { data := #[98] } = 1 := by decide +kernel
  have r2 : intsN (runesS { data := #[98] }) = [98] := by decide +kernel
  have n2 : (runesS { data := #[98] }).length = 1 := by decide +kernel
  unfold distS
  rw [l1, r1, n1, l2, r2, n2, if_pos (by decide)]
  have h0 : Ed.row [98] [97, 98] 0 = [0, 1] := by rw [← upTo_row]; decide
  have h1 : Ed.row [98] [97, 98] 1 = [1, 1] := by rw [← Ed.mix_all _ _ 0, h0]; decide
  have h2 : Ed.row [98] [97, 98] 2 = [2, 1] := by rw [← Ed.mix_all _ _ 1, h1]; decide
  rw [← Ed.row_getD _ _ 2 1 (by decide), h2]
  rfl
theorem top_awake : topK [⟨#[97, 98]⟩, ⟨#[97, 98, 99]⟩, ⟨#[98]⟩] ⟨#[97, 98]⟩ 1 2 = [(0, ⟨#[97, 98]⟩), (1, ⟨#[97, 98, 99]⟩)] := by
  have l1 : lenS { data := #[97, 98] } = 2 := by decide +kernel
  have hm : mayP ⟨#[97, 98]⟩ 1 2 := by unfold mayP; rw [l1]; omega
  have hn : nearL [⟨#[97, 98]⟩, ⟨#[97, 98, 99]⟩, ⟨#[98]⟩] ⟨#[97, 98]⟩ 1 = [(0, ⟨#[97, 98]⟩), (1, ⟨#[97, 98, 99]⟩), (1, ⟨#[98]⟩)] := by
    simp [nearL, d_ab_ab, d_abc_ab, d_b_ab]
  have c1 : cmpS ⟨#[97, 98, 99]⟩ ⟨#[98]⟩ = -1 := by decide +kernel
  have c2 : cmpS ⟨#[98]⟩ ⟨#[97, 98, 99]⟩ = 1 := by decide +kernel
  have hs : sortK [((0 : Int), (⟨#[97, 98]⟩ : Tx)), (1, ⟨#[97, 98, 99]⟩), (1, ⟨#[98]⟩)] = [(0, ⟨#[97, 98]⟩), (1, ⟨#[97, 98, 99]⟩), (1, ⟨#[98]⟩)] := by
    refine sortK_same ?_
    unfold SortedK leK
    simp [ordK, c2]
  unfold topK allK
  rw [if_pos hm, hn, hs]
  rfl
theorem holdsT_lit3 (w : World) (a b c : Tx) (e : TypeId) (fr : Nat × Nat) : HoldsT (w.alloc (.cells #[.string a, .string b, .string c] e fr)) (some ⟨w.heap.size, 0, none⟩) 3 [a, b, c] := by
  refine ⟨rfl, fun _ => ⟨w.heap.size, 0, rfl, fun i hi => ?_⟩⟩
  have : i = 0 ∨ i = 1 ∨ i = 2 := by omega
  rcases this with rfl | rfl | rfl
  · rw [Nat.add_zero, World.cell?_alloc_mark]; rfl
  · rw [Nat.zero_add, World.cell?_alloc_mark]; rfl
  · rw [Nat.zero_add, World.cell?_alloc_mark]; rfl
theorem holdsK_lit2 (w : World) (a b : KV) (e : TypeId) (fr : Nat × Nat) : HoldsK (w.alloc (.cells #[.int .i64 a.1, .string a.2, .int .i64 b.1, .string b.2] e fr)) (some ⟨w.heap.size, 0, none⟩) 2 [a, b] := by
  refine ⟨rfl, fun _ => ⟨w.heap.size, 0, rfl, fun i hi => ?_⟩⟩
  have : i = 0 ∨ i = 1 := by omega
  rcases this with rfl | rfl
  · rw [World.cell?_alloc_mark, World.cell?_alloc_mark]; exact ⟨rfl, rfl⟩
  · rw [World.cell?_alloc_mark, World.cell?_alloc_mark]; exact ⟨rfl, rfl⟩
theorem rankTop_lit (a : Option Addr) (n cap : Nat) (ws : List Tx) (s : Tx) (k m : Int) (ys : List KV) (w : World) (hh : HoldsT w a n ws) (hn : n ≤ 50000) (hl : ∀ t ∈ ws, t.size ≤ 1048576) (hs : s.size ≤ 1048576) (hy : topK ws s k m = ys) :
    Calls Try.prog 17 #[.slice a n cap, .agg #[.string s, .int .i64 k, .int .i64 m]] w (RetI w ys) := by subst hy; exact rankTop_any a n cap ws s k m w hh hn hl hs
def smallK (ks : List KV) : Prop := ∀ k ∈ ks, k.2.size ≤ 100
def greatKB (ks : List KV) : Bool := decide (80 < ks.length ∨ ∃ k ∈ ks, 100 < k.2.size)
theorem greatK_no_iff {ks : List KV} : greatKB ks = false ↔ ks.length ≤ 80 ∧ smallK ks := by
  unfold greatKB smallK
  rw [decide_eq_false_iff_not]
  constructor
  · intro h
    refine ⟨by omega, fun k hk => ?_⟩
    rcases Nat.lt_or_ge 100 k.2.size with h2 | h2
    · exact absurd (Or.inr ⟨k, hk, h2⟩) h
    · exact h2
  · rintro ⟨h1, h2⟩ (h | ⟨k, hk, h3⟩)
    · omega
    · have := h2 k hk; omega
theorem greatK_any (a : Option Addr) (n cap : Nat) (ks : List KV) (w : World) (hh : HoldsK w a n ks) (hn : n ≤ 9223372036854775807) (hx : ∀ k ∈ ks, k.2.size ≤ 9223372036854775807) :
    Calls Try.prog 19 #[.slice a n cap] w fun e w' => e = .returned (.bool (greatKB ks)) ∧ w = w' := by
  have hl := hh.len
  obtain ⟨g, hg'⟩ : ∃ g, greatKB ks = g := ⟨_, rfl⟩
  have hg : g = true ↔ (80 < ks.length ∨ ∃ k ∈ ks, 100 < k.2.size) := by rw [← hg']; exact decide_eq_true_iff
  rw [hg']
  clear hg'
  have HG := Lib.hid hg; have HX := Lib.hid hx; have HH := Lib.hid hh
  clear hg hx hh
  by_cases h1 : 80 < n
  · have hgt : g = true := HG.out.2 (Or.inl (by omega))
    subst hgt
    have h2 : ¬ n ≤ 80 := by omega
    go_enter Try.func19, Try.ntmps19
    go_wp2_with fail
    go_loop [3] (fun c => c = .int .i64 0) (fun _ => 0)
    case atStart => exact rfl
    case round =>
      subst hrel
      go_wp2_with fail
      go_ret
      exact ⟨ret_bool (by simp <;> omega), rfl⟩
  have h2 : n ≤ 80 := by omega
  go_enter Try.func19, Try.ntmps19
  go_wp2_with fail
  go_loop [3] (fun c => ∃ i : Nat, i ≤ n ∧ c = .int .i64 i ∧ Hid (∀ j, j < i → (ks.getD j k0).2.size ≤ 100)) (fun c => n - (intOf c).toNat)
  case atStart => exact ⟨0, by omega, rfl, Lib.hid (by omega)⟩
  case round =>
    obtain ⟨i, hi, rfl, HA⟩ := hrel
    by_cases hin : i < n
    · obtain ⟨b, o, rfl, hc⟩ := HH.out.at (by omega)
      have hc2 := (hc i hin).2
      have hz := HX.out _ (getD_memK ks i (by omega))
      have hmem := getD_memK ks i (by omega)
      have HE := Lib.hid (fun h => HG.out.2 (Or.inr ⟨_, hmem, h⟩))
      have HAn := Lib.hid (fun (h : (ks.getD i k0).2.size ≤ 100) j (hj : j < i + 1) => show (ks.getD j k0).2.size ≤ 100 from (by
          by_cases e : j = i
          · subst e; exact h
          · exact HA.out j (by omega)))
      obtain ⟨x, hx⟩ : ∃ x, ks.getD i k0 = x := ⟨_, rfl⟩
      rw [hx] at hc2 hz HE HAn
      clear hc hx hmem
      obtain ⟨x1, x2⟩ := x
      simp only at hc2 hz HE HAn
      by_cases hs : 100 < x2.size
      · have hgt : g = true := HE.out hs
        subst hgt
        go_wp2_with fail
        go_ret
        exact ⟨rfl, rfl⟩
      · have HA2 := Lib.hid (HAn.out (by omega))
        go_wp2_with fail
        go_round
        case rel => exact ⟨i + 1, by omega, by go_num, HA2⟩
        case measure => simp [intOf]; omega
    · have hgf : g = false := by
        cases hg : g with
        | false => rfl
        | true =>
          rcases HG.out.1 hg with x | ⟨k, hk, x⟩
          · omega
          · obtain ⟨j, hj, rfl⟩ := List.getElem_of_mem hk
            have := HA.out j (by omega)
            simp [List.getD_eq_getElem?_getD, hj] at this
            omega
      subst hgf
      go_wp2_with fail
      go_ret
      exact ⟨ret_bool (by simp <;> omega), rfl⟩
theorem grown_set {w wr : World} {g : Nat} (h : w.grownBy wr (some g)) (o : Nat) (v : Value) : w.grownBy (wr.setCell ⟨g, o, none⟩ v) (some g) :=
  ⟨h.os, h.tape, h.output, by have := h.size; simpa using this, fun b hb hne => (Below.heap_setCell wr ⟨g, o, none⟩ v b (fun e => hne (by show some b = some g; rw [e]))).trans (h.block b hb hne)⟩
end Go.Proofs.Ytmpkmgkafhlpjaa
