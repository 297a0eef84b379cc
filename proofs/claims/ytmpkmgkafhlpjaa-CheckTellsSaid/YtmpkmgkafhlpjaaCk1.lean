/- contracts of begins (check's and the document's) and slices.Equal of items -/
import Derived.Test.YtmpkmgkafhlpjaaKf0
import Derived.Test.YtmpkmgkafhlpjaaWs2
import Derived.Test.YtmpkmgkafhlpjaaTn
import Derived.WalkLawsBesides
import Derived.Outline
import Derived.Deep.QuietTactic
import Derived.BigQuiet
import Derived.Deep.DeepCutAuto
namespace Go.Proofs.Ytmpkmgkafhlpjaa
open Go.RowKit
set_option linter.unusedVariables false
set_option maxRecDepth 20000
def bgB (xs ys : List KV) : Bool := decide (xs = ys.take xs.length)
theorem bgB_long {xs ys : List KV} (h : ys.length < xs.length) : bgB xs ys = false := by
  refine decide_eq_false fun e => ?_
  have := congrArg List.length e
  rw [List.length_take] at this; omega
theorem getD_take {l : List KV} {n k : Nat} (h : k < n) : (l.take n).getD k k0 = l.getD k k0 := by
  simp [List.getD_eq_getElem?_getD, h]
theorem bgB_ne {xs ys : List KV} {k : Nat} (h : k < xs.length) (hne : xs.getD k k0 ≠ ys.getD k k0) : bgB xs ys = false := by
  refine decide_eq_false fun e => hne ?_
  rw [e, getD_take h]
theorem bgB_end {xs ys : List KV} {n : Nat} (hn : xs.length = n) (h : xs.take n = ys.take n) : bgB xs ys = true := by
  refine decide_eq_true ?_
  rw [List.take_of_length_le (by omega)] at h
  rw [hn]; exact h
theorem take_more {xs ys : List KV} {k : Nat} (h : xs.take k = ys.take k) (h1 : k < xs.length) (h2 : k < ys.length) (e : xs.getD k k0 = ys.getD k k0) : xs.take (k + 1) = ys.take (k + 1) := by
  rw [take_succ_getD xs k0 k h1, take_succ_getD ys k0 k h2, h, e]
theorem eq_end {xs ys : List KV} {n : Nat} (h1 : xs.length = n) (h2 : ys.length = n) (h : xs.take n = ys.take n) : xs = ys := take_eq_all h h1 h2
theorem below_drewN2 (w : World) (q m : Nat) : Below w.heap.size w ((w.drewN q).drewN m) := (below_drewN w q).trans ((below_drewN _ m).mono (below_drewN w q).size)
set_option maxHeartbeats 3200000 in
theorem begins_any (a : Option Addr) (n ca : Nat) (xs : List KV) (b : Option Addr) (m cb : Nat) (ys : List KV) (f : Bool) (w : World) (h1 : HoldsK w a n xs) (h2 : HoldsK w b m ys) (hn : n ≤ 4611686018427387904) (hm : m ≤ 4611686018427387904) (hf : bgB xs ys = f) :
    Calls Try.prog 20 #[.slice a n ca, .slice b m cb] w fun e w' => e = .returned (.bool f) ∧ Below w.heap.size w w' := by
  have l1 := h1.len
  have l2 := h2.len
  by_cases hlen : m < n
  · obtain rfl : f = false := by rw [← hf]; exact bgB_long (by omega)
    clear hf h1 h2
    go_enter Try.func20, Try.ntmps20
    go_wp2_with fail
    go_ret
    exact ⟨rfl, Below.refl _ _⟩
  have H1 := Lib.hid h1; have H2 := Lib.hid h2; have HF := Lib.hid hf; have L1 := Lib.hid l1; have L2 := Lib.hid l2
  have hle : n ≤ m := by omega
  clear h1 h2 hf l1 l2
  go_enter Try.func20, Try.ntmps20
  go_wp2_with fail
  go_loopw [14] (fun iv wr => ∃ k : Nat, k ≤ n ∧ iv = .int .i64 k ∧ Hid (xs.take k = ys.take k) ∧ Hid (Below w.heap.size w wr)) (fun iv _ => n - (intOf iv).toNat)
  case atStart => exact ⟨0, by omega, rfl, Lib.hid (by simp), Lib.hid (Below.refl _ _)⟩
  case round =>
    obtain ⟨k, hk, rfl, hT, hB⟩ := hrel
    by_cases hlt : k < n
    · have hkm : k < m := by omega
      obtain ⟨b1, o1, rfl, k1⟩ := (H1.out.below hB.out).at (by omega)
      obtain ⟨b2, o2, rfl, k2⟩ := (H2.out.below hB.out).at (by omega)
      obtain ⟨e1, e2⟩ := k1 k hlt
      obtain ⟨e3, e4⟩ := k2 k hkm
      have SM := Lib.hid (fun e => take_more hT.out (by have := L1.out; omega) (by have := L2.out; omega) e)
      have SN := Lib.hid (fun e => bgB_ne (xs := xs) (ys := ys) (k := k) (by have := L1.out; omega) e)
      obtain ⟨x, hx⟩ : ∃ x, xs.getD k k0 = x := ⟨_, rfl⟩
      obtain ⟨y, hy⟩ : ∃ y, ys.getD k k0 = y := ⟨_, rfl⟩
      rw [hx] at e1 e2 SM SN
      rw [hy] at e3 e4 SM SN
      obtain ⟨x1, x2⟩ := x
      obtain ⟨y1, y2⟩ := y
      simp only at e1 e2 e3 e4
      clear hx hy k1 k2
      go_upto_region 6 with fail
      have hb1 := below_one wr (.cells #[.int .i64 x1, .string x2] 36)
      have B1 := Lib.hid (hB.out.trans (hb1.mono hB.out.size))
      have g3 := (hb1.cell (p := ⟨b2, o2 + k * 2, none⟩) (lt_of_cell e3)).trans e3
      have g4 := (hb1.cell (p := ⟨b2, o2 + k * 2 + 1, none⟩) (lt_of_cell e3)).trans e4
      have g1 : (wr.alloc (.cells #[.int .i64 x1, .string x2] 36)).cell? ⟨wr.heap.size, 0, none⟩ = some (.int .i64 x1) := by rw [cell_alloc rfl]; rfl
      have g2 : (wr.alloc (.cells #[.int .i64 x1, .string x2] 36)).cell? ⟨wr.heap.size, 1, none⟩ = some (.string x2) := by rw [cell_alloc rfl]; rfl
      clear hb1 e1 e2 e3 e4
      generalize wr.alloc (.cells #[.int .i64 x1, .string x2] 36) = wt at *
      generalize wr.heap.size = r at *
      have y1' : (0 : Int) ≤ (k : Int) := by omega
      have y2' : (k : Int) < (m : Int) := by omega
      by_cases c1 : x1 = y1
      · by_cases c2 : x2 = y2
        · subst c1 c2
          have HS := Lib.hid (SM.out rfl)
          have f1 : (x1 == x1) = true := by simp
          have f2 := str_same x2
          go_quiet (fail)
          go_wp2_with fail
          go_roundw
          case rel => exact ⟨k + 1, by omega, by go_num, HS, Lib.hid (B1.out.trans ((below_drewN _ _).mono B1.out.size))⟩
          case measure => simp [intOf]; omega
        · subst c1
          obtain rfl : f = false := by rw [← HF.out]; exact SN.out (fun e => c2 (by injection e))
          have f1 : (x1 == x1) = true := by simp
          have f2 := str_other c2
          go_quiet (fail)
          go_wp2_with fail
          go_ret
          exact ⟨rfl, B1.out.trans ((below_drewN _ _).mono B1.out.size)⟩
      · obtain rfl : f = false := by rw [← HF.out]; exact SN.out (fun e => c1 (by injection e))
        have f1 : (x1 == y1) = false := by simpa using c1
        go_quiet (fail)
        go_wp2_with fail
        go_ret
        exact ⟨rfl, B1.out.trans ((below_drewN _ _).mono B1.out.size)⟩
    · obtain rfl : k = n := by omega
      obtain rfl : f = true := by rw [← HF.out]; exact bgB_end L1.out hT.out
      go_wp2_with fail
      go_ret
      exact ⟨rfl, hB.out⟩
set_option maxHeartbeats 3200000 in
theorem rbegins_any (a : Option Addr) (n ca : Nat) (xs : List KV) (b : Option Addr) (m cb : Nat) (ys : List KV) (f : Bool) (w : World) (h1 : HoldsK w a n xs) (h2 : HoldsK w b m ys) (hn : n ≤ 4611686018427387904) (hm : m ≤ 4611686018427387904) (hf : bgB xs ys = f) :
    Calls Try.prog 21 #[.slice a n ca, .slice b m cb] w fun e w' => e = .returned (.bool f) ∧ Below w.heap.size w w' := by
  have L1 := Lib.hid h1.len; have L2 := Lib.hid h2.len
  have H1 := Lib.hid h1; have H2 := Lib.hid h2; have HF := Lib.hid hf
  clear h1 h2 hf
  go_enter Try.func21, Try.ntmps21
  go_wp2_with fail
  go_loopw [5] (fun iv wr => ∃ (k q : Nat), k ≤ n ∧ k ≤ m ∧ iv = .int .i64 k ∧ Hid (xs.take k = ys.take k) ∧ wr = w.drewN q) (fun iv _ => n - (intOf iv).toNat)
  case atStart => exact ⟨0, 0, by omega, by omega, rfl, Lib.hid (by simp), rfl⟩
  case round =>
    obtain ⟨k, q, hk, hkm', rfl, hT, rfl⟩ := hrel
    by_cases hlt : k < n
    · by_cases hkm : k < m
      · obtain ⟨b1, o1, rfl, k1⟩ := H1.out.at (by omega)
        obtain ⟨b2, o2, rfl, k2⟩ := H2.out.at (by omega)
        obtain ⟨e1, e2⟩ := k1 k hlt
        obtain ⟨e3, e4⟩ := k2 k hkm
        have SM := Lib.hid (fun e => take_more hT.out (by have := L1.out; omega) (by have := L2.out; omega) e)
        have SN := Lib.hid (fun e => bgB_ne (xs := xs) (ys := ys) (k := k) (by have := L1.out; omega) e)
        obtain ⟨x, hx⟩ : ∃ x, xs.getD k k0 = x := ⟨_, rfl⟩
        obtain ⟨y, hy⟩ : ∃ y, ys.getD k k0 = y := ⟨_, rfl⟩
        rw [hx] at e1 e2 SM SN
        rw [hy] at e3 e4 SM SN
        obtain ⟨x1, x2⟩ := x
        obtain ⟨y1, y2⟩ := y
        simp only at e1 e2 e3 e4
        have d1 : decide (m ≤ k) = false := by simpa using hkm
        clear hx hy k1 k2
        by_cases c1 : x1 = y1
        · by_cases c2 : x2 = y2
          · subst c1 c2
            have HS := Lib.hid (SM.out rfl)
            have f1 : (x1 == x1) = true := by simp
            have f2 := str_same x2
            go_wp2_with fail
            go_quiet (fail)
            go_wp2_with fail
            go_roundw
            case rel => exact ⟨k + 1, _, by omega, by omega, by go_num, HS, rfl⟩
            case measure => simp [intOf]; omega
          · subst c1
            obtain rfl : f = false := by rw [← HF.out]; exact SN.out (fun e => c2 (by injection e))
            have f1 : (x1 == x1) = true := by simp
            have f2 := str_other c2
            go_wp2_with fail
            go_quiet (fail)
            go_wp2_with fail
            go_ret
            first | exact ⟨rfl, below_drewN2 _ _ _⟩ | exact ⟨rfl, below_drewN _ _⟩
        · obtain rfl : f = false := by rw [← HF.out]; exact SN.out (fun e => c1 (by injection e))
          have f1 : (x1 == y1) = false := by simpa using c1
          go_wp2_with fail
          go_quiet (fail)
          go_wp2_with fail
          go_ret
          first | exact ⟨rfl, below_drewN2 _ _ _⟩ | exact ⟨rfl, below_drewN _ _⟩
      · obtain rfl : f = false := by rw [← HF.out]; exact bgB_long (by have := L1.out; have := L2.out; omega)
        have d1 : decide (m ≤ k) = true := by simpa using hkm
        go_wp2_with fail
        go_quiet (fail)
        go_wp2_with fail
        go_ret
        first | exact ⟨rfl, below_drewN2 _ _ _⟩ | exact ⟨rfl, below_drewN _ _⟩
    · obtain rfl : k = n := by omega
      obtain rfl : f = true := by rw [← HF.out]; exact bgB_end L1.out hT.out
      go_wp2_with fail
      go_ret
      first | exact ⟨rfl, below_drewN2 _ _ _⟩ | exact ⟨rfl, below_drewN _ _⟩
set_option maxHeartbeats 3200000 in
theorem equal_any (a : Option Addr) (n ca : Nat) (xs : List KV) (b : Option Addr) (m cb : Nat) (ys : List KV) (f : Bool) (w : World) (h1 : HoldsK w a n xs) (h2 : HoldsK w b m ys) (hn : n ≤ 4611686018427387904) (hm : m ≤ 4611686018427387904) (hf : decide (xs = ys) = f) :
    Calls Try.prog 23 #[.slice a n ca, .slice b m cb] w fun e w' => e = .returned (.bool f) ∧ Below w.heap.size w w' := by
  by_cases hnm : n = m
  case neg =>
    obtain rfl : f = false := by rw [← hf]; exact decide_eq_false fun e => hnm (by rw [← h1.len, ← h2.len, e])
    have x1 : ((n : Int) != (m : Int)) = true := by simp; omega
    clear hf h1 h2
    go_enter Try.func23, Try.ntmps23
    go_wp2_with fail
    go_ret
    exact ⟨rfl, Below.refl _ _⟩
  subst hnm
  have L1 := Lib.hid h1.len; have L2 := Lib.hid h2.len
  have H1 := Lib.hid h1; have H2 := Lib.hid h2; have HF := Lib.hid hf
  have x1 : ((n : Int) != (n : Int)) = false := by simp
  clear h1 h2 hf
  go_enter Try.func23, Try.ntmps23
  go_wp2_with fail
  go_loopw [13] (fun iv wr => ∃ (k q : Nat), k ≤ n ∧ iv = .int .i64 k ∧ Hid (xs.take k = ys.take k) ∧ wr = w.drewN q) (fun iv _ => n - (intOf iv).toNat)
  case atStart => exact ⟨0, 0, by omega, rfl, Lib.hid (by simp), rfl⟩
  case round =>
    obtain ⟨k, q, hk, rfl, hT, rfl⟩ := hrel
    by_cases hlt : k < n
    · obtain ⟨b1, o1, rfl, k1⟩ := H1.out.at (by omega)
      obtain ⟨b2, o2, rfl, k2⟩ := H2.out.at (by omega)
      obtain ⟨e1, e2⟩ := k1 k hlt
      obtain ⟨e3, e4⟩ := k2 k hlt
      have SM := Lib.hid (fun e => take_more hT.out (by have := L1.out; omega) (by have := L2.out; omega) e)
      have SN := Lib.hid (fun (e : xs.getD k k0 ≠ ys.getD k k0) => show ¬ xs = ys from fun h => e (by rw [h]))
      obtain ⟨x, hx⟩ : ∃ x, xs.getD k k0 = x := ⟨_, rfl⟩
      obtain ⟨y, hy⟩ : ∃ y, ys.getD k k0 = y := ⟨_, rfl⟩
      rw [hx] at e1 e2 SM SN
      rw [hy] at e3 e4 SM SN
      obtain ⟨x1, x2⟩ := x
      obtain ⟨y1, y2⟩ := y
      simp only at e1 e2 e3 e4
      clear hx hy k1 k2
      by_cases c1 : x1 = y1
      · by_cases c2 : x2 = y2
        · subst c1 c2
          have HS := Lib.hid (SM.out rfl)
          have f1 : (x1 == x1) = true := by simp
          have f2 := str_same x2
          go_wp2_with fail
          go_quiet (fail)
          go_wp2_with fail
          go_roundw
          case rel => exact ⟨k + 1, _, by omega, by go_num, HS, rfl⟩
          case measure => simp [intOf]; omega
        · subst c1
          obtain rfl : f = false := by rw [← HF.out]; exact decide_eq_false (SN.out (fun e => c2 (by injection e)))
          have f1 : (x1 == x1) = true := by simp
          have f2 := str_other c2
          go_wp2_with fail
          go_quiet (fail)
          go_wp2_with fail
          go_ret
          first | exact ⟨rfl, below_drewN2 _ _ _⟩ | exact ⟨rfl, below_drewN _ _⟩
      · obtain rfl : f = false := by rw [← HF.out]; exact decide_eq_false (SN.out (fun e => c1 (by injection e)))
        have f1 : (x1 == y1) = false := by simpa using c1
        go_wp2_with fail
        go_quiet (fail)
        go_wp2_with fail
        go_ret
        first | exact ⟨rfl, below_drewN2 _ _ _⟩ | exact ⟨rfl, below_drewN _ _⟩
    · obtain rfl : k = n := by omega
      obtain rfl : f = true := by rw [← HF.out]; exact decide_eq_true (eq_end L1.out L2.out hT.out)
      go_wp2_with fail
      go_ret
      first | exact ⟨rfl, below_drewN2 _ _ _⟩ | exact ⟨rfl, below_drewN _ _⟩
end Go.Proofs.Ytmpkmgkafhlpjaa
