/- contract of great (keys) -/
import Derived.Test.YteloiibejkflhaaQKp6
import Derived.Test.YteloiibejkflhaaQWa1
namespace Go.Proofs.Yteloiibejkflhaa
open Go.RowKit
set_option linter.unusedVariables false
set_option maxRecDepth 20000
def greatK (ks : List KV) : Bool := decide (10 < ks.length ∨ ∃ k ∈ ks, 100 < k.2.size)
theorem greatK_yes {ks : List KV} (h : 10 < ks.length ∨ ∃ k ∈ ks, 100 < k.2.size) : greatK ks = true := decide_eq_true h
theorem greatK_no {ks : List KV} (h1 : ks.length ≤ 10) (h2 : ∀ k ∈ ks, k.2.size ≤ 100) : greatK ks = false := by
  refine decide_eq_false ?_
  rintro (h | ⟨t, ht, h⟩)
  · omega
  · have := h2 t ht; omega
theorem greatK_no_iff {ks : List KV} : greatK ks = false ↔ ks.length ≤ 10 ∧ ∀ k ∈ ks, k.2.size ≤ 100 := by
  constructor
  · intro h
    have h' := of_decide_eq_false h
    refine ⟨Nat.le_of_not_lt fun k => h' (Or.inl k), fun t ht => Nat.le_of_not_lt fun k => h' (Or.inr ⟨t, ht, k⟩)⟩
  · rintro ⟨h1, h2⟩; exact greatK_no h1 h2
abbrev confV (a : Option Addr) (n cap : Nat) : Array Value := #[.slice none 0 0, .slice a n cap, .int .i64 0, .int .i64 0, .int .i64 0, .int .i64 0, .int .i64 0, .int .i64 0, .int .i64 0, .int .i64 0, .int .i64 0, .int .i64 0]
set_option maxHeartbeats 1600000 in
theorem gconf_any (a : Option Addr) (n cap : Nat) (ks : List KV) (w : World) (hh : HoldsK w a n ks) (hn : n ≤ 9223372036854775807) (hk : ∀ k ∈ ks, KeyOk k) :
    Calls Try.prog 6 #[.agg #[.slice none 0 0, .slice a n cap, .int .i64 0, .int .i64 0, .int .i64 0, .int .i64 0, .int .i64 0, .int .i64 0, .int .i64 0, .int .i64 0, .int .i64 0, .int .i64 0]] w fun e w' => e = .returned (.bool (greatK ks)) ∧ Below w.heap.size w w' := by
  have hl := hh.len
  obtain ⟨gv, hgv⟩ : ∃ g, greatK ks = g := ⟨_, rfl⟩
  rw [hgv]
  have HG := Lib.hid hgv
  clear hgv
  have GT := Lib.hid (fun w => great_any none 0 0 [] w (HoldsT.nil _ _) (by omega) (by simp))
  rw [great_no (ts := []) (by simp) (by simp [smallP])] at GT
  have BB := Lib.hid (below_one w (.cells #[.slice none 0 0, .slice a n cap, .int .i64 0, .int .i64 0, .int .i64 0, .int .i64 0, .int .i64 0, .int .i64 0, .int .i64 0, .int .i64 0, .int .i64 0, .int .i64 0] 25))
  have e0 : (w.alloc (.cells #[.slice none 0 0, .slice a n cap, .int .i64 0, .int .i64 0, .int .i64 0, .int .i64 0, .int .i64 0, .int .i64 0, .int .i64 0, .int .i64 0, .int .i64 0, .int .i64 0] 25)).cell? ⟨w.heap.size, 0, none⟩ = some (.slice none 0 0) := by simp
  have e1 : (w.alloc (.cells #[.slice none 0 0, .slice a n cap, .int .i64 0, .int .i64 0, .int .i64 0, .int .i64 0, .int .i64 0, .int .i64 0, .int .i64 0, .int .i64 0, .int .i64 0, .int .i64 0] 25)).cell? ⟨w.heap.size, 1, none⟩ = some (.slice a n cap) := by simp
  go_enter Try.func6, Try.ntmps6
  go_wp2_with fail
  generalize w.alloc (.cells #[.slice none 0 0, .slice a n cap, .int .i64 0, .int .i64 0, .int .i64 0, .int .i64 0, .int .i64 0, .int .i64 0, .int .i64 0, .int .i64 0, .int .i64 0, .int .i64 0] 25) = w1 at *
  have H1 := Lib.hid (hh.below BB.out)
  obtain ⟨blk, hblk⟩ : ∃ blk, w.heap.size = blk := ⟨_, rfl⟩
  have HBK := Lib.hid hblk
  rw [hblk] at e0 e1 ⊢
  have C1 := Lib.hid (fun (w3 : World) (hb : Below w1.heap.size w1 w3) => show w3.cell? ⟨blk, 1, none⟩ = some (.slice a n cap) from (hb.cell (p := ⟨blk, 1, none⟩) (lt_of_cell e1)).trans e1)
  clear hblk hh
  by_cases h10 : n ≤ 10
  case neg =>
    have hg : gv = true := by rw [← HG.out]; exact greatK_yes (Or.inl (by omega))
    subst hg
    have g1 : decide ((n : Int) ≤ 10) = false := by rw [decide_eq_false_iff_not]; omega
    go_loop [3] (fun iv => iv = .int .i64 0) (fun _ => 0)
    case atStart => rfl
    case round =>
      obtain rfl := hrel
      go_wp2_with fail
      refine (GT.out _).mono ?_
      rintro e w2 ⟨rfl, hb2⟩
      have e2 := C1.out w2 hb2
      go_wp2_with fail
      go_ret
      exact ⟨ret_bool (by rw [decide_eq_true_iff]; omega), BB.out.trans (by rw [HBK.out]; exact hb2.mono (by have := BB.out.size; have := HBK.out; omega))⟩
  go_loop [3] (fun iv => ∃ j : Nat, j ≤ n ∧ iv = .int .i64 j ∧ Hid (∀ k ∈ ks.take j, k.2.size ≤ 100)) (fun iv => n - (intOf iv).toNat)
  case atStart => exact ⟨0, by omega, rfl, Lib.hid (by simp)⟩
  case round =>
    obtain ⟨j, hj, rfl, hS⟩ := hrel
    have g1 : decide ((n : Int) ≤ 10) = true := by rw [decide_eq_true_iff]; omega
    by_cases hlt : j < n
    · obtain ⟨b, o, rfl, hc⟩ := H1.out.at (by omega)
      obtain ⟨e3, e4⟩ := hc j hlt
      have hmem := getD_memK ks j (by omega)
      have htk := take_succ_getD ks k0 j (by omega)
      obtain ⟨x, hx⟩ : ∃ x, ks.getD j k0 = x := ⟨_, rfl⟩
      rw [hx] at e3 e4 hmem htk
      have hxs := (hk x hmem).2
      have HM := Lib.hid hmem; have HT := Lib.hid htk
      clear hx hmem htk hc
      by_cases hg : 100 < x.2.size
      · have hgt : gv = true := by rw [← HG.out]; exact greatK_yes (Or.inr ⟨x, HM.out, hg⟩)
        subst hgt
        go_wp2_with fail
        go_ret
        exact ⟨rfl, BB.out⟩
      · go_wp2_with fail
        go_round
        case rel => exact ⟨j + 1, by omega, by go_num, Lib.hid (by rw [HT.out]; intro z hz; rcases List.mem_append.1 hz with hz | hz; exact hS.out z hz; simp at hz; rw [hz]; omega)⟩
        case measure => simp [intOf]; omega
    · have hjn : ks.take j = ks := List.take_of_length_le (by omega)
      have hS2 := hS.out
      rw [hjn] at hS2
      have hg : gv = false := by rw [← HG.out]; exact greatK_no (by omega) hS2
      subst hg
      go_wp2_with fail
      refine (GT.out _).mono ?_
      rintro e w2 ⟨rfl, hb2⟩
      have e2 := C1.out w2 hb2
      go_wp2_with fail
      go_ret
      exact ⟨ret_bool (by rw [decide_eq_false_iff_not]; omega), BB.out.trans (by rw [HBK.out]; exact hb2.mono (by have := BB.out.size; have := HBK.out; omega))⟩
end Go.Proofs.Yteloiibejkflhaa
