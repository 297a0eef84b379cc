/- contracts of rank.Sort, rank.All, rank.Top -/
import Derived.Test.YtmpkmgkafhlpjaaRk2
import Derived.Test.YtmpkmgkafhlpjaaRk4
import Derived.Test.YtmpkmgkafhlpjaaBa30
import Derived.Laws.OwnMore
import Derived.Lib.SliceRun
namespace Go.Proofs.Ytmpkmgkafhlpjaa
open Go.RowKit
set_option linter.unusedVariables false
set_option maxRecDepth 20000
/-- sorted in place is a slice of the call's own -/
theorem sortI_own (a : Option Addr) (n cap B : Nat) (ks : List KV) (w : World) (hown : w.ownsRow B 36 2 (.slice a n cap) n (keysV ks)) (hn : n ≤ 1048576) :
    Calls Try.prog 30 #[.slice a n cap, .func (.func 31) #[] #[]] w fun e w' => e = .returned (.tuple #[]) ∧ w'.ownsRow B 36 2 (.slice a n cap) n (keysV (sortK ks)) ∧ (∀ b w0, b ≤ B → Below b w0 w → Below b w0 w') := by
  have hl : ks.length = n := by have := hown.1; rw [keysV_len] at this; omega
  rcases hown.2 with ⟨h, h0⟩ | ⟨g', c', cur, h, _⟩
  · cases h
    obtain rfl : ks = [] := List.eq_nil_of_length_eq_zero hl
    refine (sortI_none 0 w).mono ?_
    rintro e w' ⟨rfl, rfl⟩
    exact ⟨rfl, hown, fun _ _ _ h => h⟩
  · cases h
    exact sortI_some g' n cap B ks w hown hn
set_option maxHeartbeats 1600000 in
theorem rankAll_any (a : Option Addr) (n cap : Nat) (ws : List Tx) (s : Tx) (k : Int) (w : World) (hh : HoldsT w a n ws) (hn : n ≤ 50000) (hl : ∀ t ∈ ws, t.size ≤ 1048576) (hs : s.size ≤ 1048576) :
    Calls Try.prog 25 #[.slice a n cap, .string s, .int .i64 k] w (RetI w (allK ws s k)) := by
  obtain ⟨i0, hi, hz0, hz1, hz2⟩ := info_parts item_info
  have hll := hh.len
  have HH := Lib.hid hh; have HL := Lib.hid hl
  clear hh hl
  go_enter Try.func25, Try.ntmps25
  go_wp2_with fail
  go_loopw [7, 14] (fun ov iv wr => ∃ (j : Nat) (P : List KV) (av : Option Addr) (cv : Nat), j ≤ n ∧ iv = .int .i64 j ∧ ov = .slice av P.length cv ∧ Hid (P = nearL (ws.take j) s k) ∧ Hid (wr.ownsRow w.heap.size 36 2 (.slice av P.length cv) P.length (keysV P)) ∧ Hid (Below w.heap.size w wr)) (fun _ iv _ => n - (intOf iv).toNat)
  case atStart => exact ⟨0, [], none, 0, by omega, rfl, rfl, Lib.hid rfl, Lib.hid (World.ownsRow_nil _ _ _ _), Lib.hid (Below.refl _ _)⟩
  case round =>
    obtain ⟨j, P, av, cv, hj, rfl, rfl, hP, hO, hB⟩ := hrel
    have hpl : P.length ≤ j := by have := nearL_len (ws.take j) s k; rw [← hP.out] at this; simp at this; omega
    by_cases hlt : j < n
    · obtain ⟨bb, o, rfl, hc⟩ := HH.out.at (by omega)
      have g0 := hc j hlt
      have e0 := (hB.out.cell (p := ⟨bb, o + j, none⟩) (lt_of_cell g0)).trans g0
      have hmem := HL.out _ (getD_memT' ws j (by omega))
      have hyes := nearL_yes (ws.take j) (ws.getD j ByteArray.empty) s k
      have hnot := nearL_no (ws.take j) (ws.getD j ByteArray.empty) s k
      rw [← take_succ_getD ws ByteArray.empty j (by omega)] at hyes hnot
      obtain ⟨y, hy⟩ : ∃ y, ws.getD j ByteArray.empty = y := ⟨_, rfl⟩
      rw [hy] at hmem hyes hnot e0
      have ND := Lib.hid (near_any y s k wr hmem hs)
      clear hc hy g0
      by_cases hk : 0 ≤ distS y s ∧ distS y s ≤ k
      · have hsn := hyes hk
        rw [← hP.out] at hsn
        have n1 : nearOk y s k = true := decide_eq_true hk
        have n2 : nearD y s k = distS y s := if_pos hk
        rw [n1, n2] at ND
        obtain ⟨d, hd⟩ : ∃ d, distS y s = d := ⟨_, rfl⟩
        rw [hd] at ND hsn
        have HS := Lib.hid hsn
        clear hyes hnot hsn n1 n2 hd hk
        go_wp2_with fail
        refine ND.out.mono ?_
        rintro e w2 ⟨rfl, hb⟩
        have B2 := Lib.hid (hB.out.trans (hb.mono hB.out.size))
        have O2 := Lib.hid (owns_below hO.out hb)
        have hsz := B2.out.size
        clear hb hB hO e0
        go_wp2_with (at_builtin; refine wpList_append_any rfl (.tmp 26) (.tmp 30) 25 rfl w.heap.size 36 i0 _ 2 24 Try.underlying25 hi hz0 hz1 hz2 rfl (by decide) _ P.length _ rfl (O2.out.alloc _) _ 1 1 [.int .i64 d, .string y] rfl (some_none _) rfl (two_new _ _ _ _ _) (two_one _ _) (by unfold maxLen; omega) (by omega) (by simp; omega) ?_; intro a3 c3 w3 hown3 hb3 hnil3)
        rw [show keysV P ++ [.int .i64 d, .string y] = keysV (P ++ [(d, y)]) from (keysV_snoc P (d, y)).symm] at hown3
        have O3 := Lib.hid hown3
        have B3 := Lib.hid ((B2.out.alloc B2.out.size _).trans hb3)
        clear hown3 hb3 hnil3
        go_roundw
        case rel => exact ⟨j + 1, P ++ [(d, y)], a3, c3, by omega, by go_num, by simp, Lib.hid HS.out.symm, Lib.hid (by have := O3.out; simpa using this), B3⟩
        case measure => simp [intOf]; omega
      · have hsn := hnot hk
        rw [← hP.out] at hsn
        have n1 : nearOk y s k = false := decide_eq_false hk
        rw [n1] at ND
        obtain ⟨d, hd⟩ : ∃ d, nearD y s k = d := ⟨_, rfl⟩
        rw [hd] at ND
        have HS := Lib.hid hsn
        clear hyes hnot hsn n1 hd hk
        go_wp2_with fail
        refine ND.out.mono ?_
        rintro e w2 ⟨rfl, hb⟩
        have B2 := Lib.hid (hB.out.trans (hb.mono hB.out.size))
        have O2 := Lib.hid (owns_below hO.out hb)
        clear hb hB hO e0
        go_wp2_with fail
        go_roundw
        case rel => exact ⟨j + 1, P, av, cv, by omega, by go_num, rfl, Lib.hid HS.out.symm, O2, B2⟩
        case measure => simp [intOf]; omega
    · have hjn : ws.take j = ws := List.take_of_length_le (by omega)
      have hP2 := hP.out
      rw [hjn] at hP2
      have SO := Lib.hid (sortI_own av P.length cv w.heap.size P wr hO.out (by omega))
      have HP := Lib.hid hP2
      clear hP hP2 hjn
      go_wp2_with fail
      refine SO.out.mono ?_
      rintro e w2 ⟨rfl, hown, hb⟩
      have B2 := Lib.hid (hb _ _ (Nat.le_refl _) hB.out)
      have O2 := Lib.hid hown
      clear hown hb
      go_wp2_with fail
      go_ret
      exact retI_own (by rw [HP.out]; rfl) (by rw [sortK_length]) O2.out B2.out _ rfl
theorem rankTop_any (a : Option Addr) (n cap : Nat) (ws : List Tx) (s : Tx) (k m : Int) (w : World) (hh : HoldsT w a n ws) (hn : n ≤ 50000) (hl : ∀ t ∈ ws, t.size ≤ 1048576) (hs : s.size ≤ 1048576) :
    Calls Try.prog 17 #[.slice a n cap, .agg #[.string s, .int .i64 k, .int .i64 m]] w (RetI w (topK ws s k m)) := by
  have B1 := Lib.hid (below_one w (.cells #[.string s, .int .i64 k, .int .i64 m] 24))
  obtain ⟨c, hc⟩ : ∃ c, decide (mayP s k m) = c := ⟨_, rfl⟩
  have M := Lib.hid (fun w => may_any s k m w (by omega))
  rw [hc] at M
  have HH := Lib.hid hh; have HL := Lib.hid hl
  clear hh hl
  cases c with
  | false =>
    have ht : topK ws s k m = [] := if_neg (of_decide_eq_false hc)
    have HT := Lib.hid ht
    clear ht hc
    go_enter Try.func17, Try.ntmps17
    go_wp2_with fail
    refine (M.out _).mono ?_
    rintro e w2 ⟨rfl, hb⟩
    go_wp2_with fail
    go_ret
    exact retI_own HT.out.symm rfl (World.ownsRow_nil _ _ _ _) (B1.out.trans (hb.mono B1.out.size)) _ rfl
  | true =>
    have hm := of_decide_eq_true hc
    have ht : topK ws s k m = (allK ws s k).take m.toNat := if_pos hm
    have hm1 := hm.2.1
    have HT := Lib.hid ht
    clear ht hc hm
    obtain ⟨mm, rfl⟩ : ∃ mm : Nat, m = mm := ⟨m.toNat, by omega⟩
    go_enter Try.func17, Try.ntmps17
    go_wp2_with fail
    have q0 : (w.alloc (.cells #[.string s, .int .i64 k, .int .i64 mm] 24)).cell? ⟨w.heap.size, 0, none⟩ = some (.string s) := by rw [cell_alloc rfl]; rfl
    have q1 : (w.alloc (.cells #[.string s, .int .i64 k, .int .i64 mm] 24)).cell? ⟨w.heap.size, 1, none⟩ = some (.int .i64 k) := by rw [cell_alloc rfl]; rfl
    have q2 : (w.alloc (.cells #[.string s, .int .i64 k, .int .i64 mm] 24)).cell? ⟨w.heap.size, 2, none⟩ = some (.int .i64 mm) := by rw [cell_alloc rfl]; rfl
    generalize w.alloc (.cells #[.string s, .int .i64 k, .int .i64 mm] 24) = w1 at *
    have Q := Lib.hid (show w.heap.size < w1.heap.size from lt_of_cell q0)
    have HQ := Lib.hid (fun (w3 : World) (hb : Below w1.heap.size w1 w3) => show w3.cell? ⟨w.heap.size, 0, none⟩ = some (.string s) ∧ w3.cell? ⟨w.heap.size, 1, none⟩ = some (.int .i64 k) ∧ w3.cell? ⟨w.heap.size, 2, none⟩ = some (.int .i64 mm) from ⟨(hb.cell (p := ⟨w.heap.size, 0, none⟩) Q.out).trans q0, (hb.cell (p := ⟨w.heap.size, 1, none⟩) Q.out).trans q1, (hb.cell (p := ⟨w.heap.size, 2, none⟩) Q.out).trans q2⟩)
    clear q0 q1 q2
    refine (M.out _).mono ?_
    rintro e w2 ⟨rfl, hb⟩
    obtain ⟨q0, q1, q2⟩ := HQ.out _ hb
    have RA := Lib.hid (rankAll_any a n cap ws s k w2 (HH.out.below (B1.out.trans (hb.mono B1.out.size))) hn HL.out hs)
    have B2 := Lib.hid hb
    clear hb
    go_wp2_with fail
    refine RA.out.mono ?_
    rintro e w3 ⟨a2, c2, rfl, hown, hb⟩
    clear q0 q1 q2
    obtain ⟨q0, q1, q2⟩ := HQ.out _ (B2.out.trans (hb.mono B2.out.size))
    have B3 := Lib.hid ((B1.out.trans (B2.out.mono B1.out.size)).trans (hb.mono (Nat.le_trans B1.out.size B2.out.size)))
    have O3 := Lib.hid (hown.mono' (B := w.heap.size) (Nat.le_trans B1.out.size B2.out.size))
    have hcap := (owns_none hown).2
    obtain ⟨L, hL⟩ : ∃ L, (allK ws s k).length = L := ⟨_, rfl⟩
    rw [hL] at O3 hcap ⊢
    have HLL := Lib.hid hL
    clear hown hb hL
    go_wp2_with fail
    go_ret
    refine retI_take (k := (min (L : Int) (mm : Int)).toNat) (ys := allK ws s k) ?_ (by omega) HLL.out O3.out B3.out _ rfl
    rw [HT.out, ← HLL.out]; exact take_min _ mm
end Go.Proofs.Ytmpkmgkafhlpjaa
