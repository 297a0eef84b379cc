/- the document's Sort, All, Top (items) -/
import Derived.Test.YtmpkmgkafhlpjaaRk3
import Derived.Test.YtmpkmgkafhlpjaaTn
import Derived.Test.YtmpkmgkafhlpjaaMay2
import Derived.Test.YtmpkmgkafhlpjaaRg50
import Derived.Test.YtmpkmgkafhlpjaaWp0
namespace Go.Proofs.Ytmpkmgkafhlpjaa
open Go.RowKit
set_option linter.unusedVariables false
set_option maxRecDepth 20000
/-- near words, as they stand -/
def nearL (ws : List Tx) (s : Tx) (k : Int) : List KV := ws.filterMap fun t => if 0 ≤ distS t s ∧ distS t s ≤ k then some (distS t s, t) else none
def allK (ws : List Tx) (s : Tx) (k : Int) : List KV := sortK (nearL ws s k)
def topK (ws : List Tx) (s : Tx) (k n : Int) : List KV := if mayP s k n then (allK ws s k).take n.toNat else []
theorem nearL_app (a b : List Tx) (s : Tx) (k : Int) : nearL (a ++ b) s k = nearL a s k ++ nearL b s k := by simp [nearL]
theorem nearL_yes (a : List Tx) (t s : Tx) (k : Int) (h : 0 ≤ distS t s ∧ distS t s ≤ k) : nearL (a ++ [t]) s k = nearL a s k ++ [(distS t s, t)] := by
  rw [nearL_app]; simp [nearL, h]
theorem nearL_no (a : List Tx) (t s : Tx) (k : Int) (h : ¬ (0 ≤ distS t s ∧ distS t s ≤ k)) : nearL (a ++ [t]) s k = nearL a s k := by
  rw [nearL_app]; simp only [nearL, List.filterMap_cons, List.filterMap_nil, if_neg h, List.append_nil]
theorem nearL_len (ws : List Tx) (s : Tx) (k : Int) : (nearL ws s k).length ≤ ws.length := List.length_filterMap_le _ _
theorem nearL_mem {ws : List Tx} {s : Tx} {k : Int} {x : KV} : x ∈ nearL ws s k ↔ x.2 ∈ ws ∧ x.1 = distS x.2 s ∧ 0 ≤ distS x.2 s ∧ distS x.2 s ≤ k := by
  unfold nearL
  rw [List.mem_filterMap]
  constructor
  · rintro ⟨t, ht, h⟩
    split at h
    · injection h with h; subst h; exact ⟨ht, rfl, by assumption⟩
    · cases h
  · rintro ⟨h1, h2, h3⟩
    exact ⟨x.2, h1, by rw [if_pos h3, ← h2]⟩
theorem allK_mem {ws : List Tx} {s : Tx} {k : Int} {x : KV} : x ∈ allK ws s k ↔ x.2 ∈ ws ∧ x.1 = distS x.2 s ∧ 0 ≤ distS x.2 s ∧ distS x.2 s ≤ k := sortK_mem.trans nearL_mem
theorem allK_len (ws : List Tx) (s : Tx) (k : Int) : (allK ws s k).length ≤ ws.length := by unfold allK; rw [sortK_length]; exact nearL_len ws s k
theorem owns_take {w : World} {B : Nat} {e : TypeId} {a : Option Addr} {n c : Nat} {ys : List KV} (h : w.ownsRow B e 2 (.slice a n c) n (keysV ys)) (k : Nat) (hk : k ≤ n) : w.ownsRow B e 2 (.slice a k c) k (keysV (ys.take k)) := by
  have hl : ys.length = n := by have := h.1; rw [keysV_len] at this; omega
  refine ⟨by rw [keysV_len]; simp; omega, ?_⟩
  rcases h.2 with ⟨h1, h2⟩ | ⟨g, cap, cur, hv, h1, h2, h3, h4, h5, h6⟩
  · cases h1
    obtain rfl : k = 0 := by omega
    exact Or.inl ⟨rfl, rfl⟩
  · cases hv
    refine Or.inr ⟨g, c, cur, rfl, h1, h2, by omega, h4, h5, ?_⟩
    have e1 : keysV ys = keysV (ys.take k) ++ keysV (ys.drop k) := by rw [← keysV_app, List.take_append_drop]
    have e2 : (cur.toList.take (n * 2)).take (k * 2) = cur.toList.take (k * 2) := by rw [List.take_take, Nat.min_eq_left (by omega)]
    rw [← e2, h6, e1, List.take_left' (by rw [keysV_len]; simp; omega)]
theorem retI_take {w w' : World} {a : Option Addr} {c n k : Nat} {ys zs : List KV} (h : ys.take k = zs) (hk : k ≤ n) (hn : ys.length = n) (hh : w'.ownsRow w.heap.size 36 2 (.slice a n c) n (keysV ys)) (hb : Below w.heap.size w w') (v : Value) (hv : v = .slice a k c) : RetI w zs (.returned v) w' :=
  retI_own h (by simp; omega) (owns_take hh k hk) hb v hv
theorem take_min {α : Type} (l : List α) (m : Nat) : l.take (min (l.length : Int) (m : Int)).toNat = l.take (m : Int).toNat := by
  by_cases h : m ≤ l.length
  · rw [show (min (l.length : Int) (m : Int)).toNat = m by omega]; rfl
  · rw [show (min (l.length : Int) (m : Int)).toNat = l.length by omega, List.take_of_length_le (Nat.le_refl _), List.take_of_length_le (by simp; omega)]
theorem rdist_lit (a b : ByteArray) (v : Int) (w : World) (hsa : a.size ≤ 1048576) (hsb : b.size ≤ 1048576) (hv : distS a b = v) :
    Calls Try.prog 33 #[.string a, .string b] w fun e w' => e = .returned (.int .i64 v) ∧ Below w.heap.size w w' := by subst hv; exact rdist_any a b w hsa hsb
set_option maxHeartbeats 1600000 in
theorem rall_any (a : Option Addr) (n cap : Nat) (ws : List Tx) (s : Tx) (k : Int) (w : World) (hh : HoldsT w a n ws) (hn : n ≤ 50000) (hl : ∀ t ∈ ws, t.size ≤ 1048576) (hs : s.size ≤ 1048576) :
    Calls Try.prog 27 #[.slice a n cap, .string s, .int .i64 k] w (RetI w (allK ws s k)) := by
  have hll := hh.len
  have HH := Lib.hid hh; have HL := Lib.hid hl
  clear hh hl
  go_enter Try.func27, Try.ntmps27
  go_wp2_with fail
  go_loopw [7, 8] (fun ov iv wr => ∃ (j : Nat) (P : List KV) (av : Option Addr) (cv : Nat), j ≤ n ∧ iv = .int .i64 j ∧ ov = .slice av P.length cv ∧ Hid (P = allK (ws.take j) s k) ∧ Hid (wr.ownsRow w.heap.size 36 2 (.slice av P.length cv) P.length (keysV P)) ∧ Hid (Below w.heap.size w wr)) (fun _ iv _ => n - (intOf iv).toNat)
  case atStart => exact ⟨0, [], none, 0, by omega, rfl, rfl, Lib.hid rfl, Lib.hid (World.ownsRow_nil _ _ _ _), Lib.hid (Below.refl _ _)⟩
  case round =>
    obtain ⟨j, P, av, cv, hj, rfl, rfl, hP, hO, hB⟩ := hrel
    by_cases hlt : j < n
    · obtain ⟨bb, o, rfl, hc⟩ := HH.out.at (by omega)
      have g0 := hc j hlt
      have HC := Lib.hid (fun (w3 : World) (hb : Below w.heap.size w w3) => show w3.cell? ⟨bb, o + j, none⟩ = some (.string (ws.getD j ByteArray.empty)) from (hb.cell (p := ⟨bb, o + j, none⟩) (lt_of_cell g0)).trans g0)
      have hmem := HL.out _ (getD_memT' ws j (by omega))
      have hyes := nearL_yes (ws.take j) (ws.getD j ByteArray.empty) s k
      have hnot := nearL_no (ws.take j) (ws.getD j ByteArray.empty) s k
      rw [← take_succ_getD ws ByteArray.empty j (by omega)] at hyes hnot
      have hpl : P.length ≤ j := by have := allK_len (ws.take j) s k; rw [← hP.out] at this; simp at this; omega
      have hPs : ∀ q ∈ P, q.2.size ≤ 1048576 := fun q hq => HL.out _ (List.mem_of_mem_take (allK_mem.1 (hP.out ▸ hq)).1)
      obtain ⟨y, hy⟩ : ∃ y, ws.getD j ByteArray.empty = y := ⟨_, rfl⟩
      rw [hy] at hmem hyes hnot
      simp only [hy] at HC
      obtain ⟨d, hd⟩ : ∃ d, distS y s = d := ⟨_, rfl⟩
      have RD := Lib.hid (fun w => rdist_lit y s d w hmem hs hd)
      rw [hd] at hyes hnot
      have HD := Lib.hid hd
      clear hc hy g0 hd
      have e0 := HC.out _ hB.out
      by_cases hk : 0 ≤ d ∧ d ≤ k
      · have hsn : allK (ws.take (j + 1)) s k = putK (d, y) P := by unfold allK; rw [hyes hk, sortK_snoc, hP.out]; rfl
        obtain ⟨hk1, hk2⟩ := hk
        have HS := Lib.hid hsn
        clear hyes hnot hsn
        go_wp2_with fail
        refine (RD.out _).mono ?_
        rintro e w2 ⟨rfl, hb⟩
        have B2 := Lib.hid (hB.out.trans (hb.mono hB.out.size))
        have O2 := Lib.hid (owns_below hO.out hb)
        have e2 := HC.out _ B2.out
        have RP := Lib.hid (rput_any av P.length cv P (d, y) w2 (HoldsK.own O2.out) (by omega) hPs hmem)
        unfold keyV at RP
        simp only at RP
        clear hb hB hO e0 hPs
        go_wp2_with fail
        refine RP.out.mono ?_
        rintro e w3 ⟨a2, c2, rfl, hown, hb⟩
        have B3 := Lib.hid (B2.out.trans (hb.mono B2.out.size))
        have O3 := Lib.hid (hown.mono' B2.out.size)
        clear hown hb B2 O2 e2
        go_wp2_with fail
        go_roundw
        case rel => exact ⟨j + 1, _, a2, c2, by omega, by go_num, rfl, Lib.hid HS.out.symm, O3, B3⟩
        case measure => simp [intOf]; omega
      · have hsn : allK (ws.take (j + 1)) s k = P := by unfold allK; rw [hnot hk, hP.out]; rfl
        have HS := Lib.hid hsn
        clear hyes hnot hsn hPs
        have hd : d < 0 ∨ (0 ≤ d ∧ k < d) := by omega
        clear hk
        rcases hd with hd | ⟨hd, hd2⟩
        all_goals
          go_wp2_with fail
          refine (RD.out _).mono ?_
          rintro e w2 ⟨rfl, hb⟩
          have B2 := Lib.hid (hB.out.trans (hb.mono hB.out.size))
          have O2 := Lib.hid (owns_below hO.out hb)
          clear hb hB hO e0
          go_wp2_with fail
          go_roundw
          case rel => exact ⟨j + 1, P, av, cv, by omega, by go_num, rfl, Lib.hid HS.out.symm, O2, B2⟩
          case measure => simp [intOf]; omega
    · have hjn : ws.take j = ws := List.take_of_length_le (by omega)
      have hP2 := hP.out
      rw [hjn] at hP2
      have HP := Lib.hid hP2
      clear hP hP2 hjn
      go_wp2_with fail
      go_ret
      exact retI_own HP.out rfl hO.out hB.out _ rfl
theorem rtop_any (a : Option Addr) (n cap : Nat) (ws : List Tx) (s : Tx) (k m : Int) (w : World) (hh : HoldsT w a n ws) (hn : n ≤ 50000) (hl : ∀ t ∈ ws, t.size ≤ 1048576) (hs : s.size ≤ 1048576) :
    Calls Try.prog 22 #[.slice a n cap, .agg #[.string s, .int .i64 k, .int .i64 m]] w (RetI w (topK ws s k m)) := by
  have B1 := Lib.hid (below_one w (.cells #[.string s, .int .i64 k, .int .i64 m] 24))
  obtain ⟨c, hc⟩ : ∃ c, decide (mayP s k m) = c := ⟨_, rfl⟩
  have M := Lib.hid (fun w => rmay_any s k m w hs)
  rw [hc] at M
  have HH := Lib.hid hh; have HL := Lib.hid hl
  clear hh hl
  cases c with
  | false =>
    have ht : topK ws s k m = [] := if_neg (of_decide_eq_false hc)
    have HT := Lib.hid ht
    clear ht hc
    go_enter Try.func22, Try.ntmps22
    go_wp2_with fail
    refine (M.out _).mono ?_
    rintro e w2 ⟨rfl, hb⟩
    go_wp2_with fail
    go_ret
    exact retI_own HT.out.symm rfl (World.ownsRow_nil _ _ _ _) (B1.out.trans (hb.mono B1.out.size)) _ rfl
  | true =>
    have hm := of_decide_eq_true hc
    have ht : topK ws s k m = (allK ws s k).take m.toNat := if_pos hm
    have hm1 := hm.2.1
    have HT := Lib.hid ht
    clear ht hc hm
    obtain ⟨mm, rfl⟩ : ∃ mm : Nat, m = mm := ⟨m.toNat, by omega⟩
    go_enter Try.func22, Try.ntmps22
    go_wp2_with fail
    have q0 : (w.alloc (.cells #[.string s, .int .i64 k, .int .i64 mm] 24)).cell? ⟨w.heap.size, 0, none⟩ = some (.string s) := by rw [cell_alloc rfl]; rfl
    have q1 : (w.alloc (.cells #[.string s, .int .i64 k, .int .i64 mm] 24)).cell? ⟨w.heap.size, 1, none⟩ = some (.int .i64 k) := by rw [cell_alloc rfl]; rfl
    have q2 : (w.alloc (.cells #[.string s, .int .i64 k, .int .i64 mm] 24)).cell? ⟨w.heap.size, 2, none⟩ = some (.int .i64 mm) := by rw [cell_alloc rfl]; rfl
    generalize w.alloc (.cells #[.string s, .int .i64 k, .int .i64 mm] 24) = w1 at *
    have Q := Lib.hid (show w.heap.size < w1.heap.size from lt_of_cell q0)
    have HQ := Lib.hid (fun (w3 : World) (hb : Below w1.heap.size w1 w3) => show w3.cell? ⟨w.heap.size, 0, none⟩ = some (.string s) ∧ w3.cell? ⟨w.heap.size, 1, none⟩ = some (.int .i64 k) ∧ w3.cell? ⟨w.heap.size, 2, none⟩ = some (.int .i64 mm) from ⟨(hb.cell (p := ⟨w.heap.size, 0, none⟩) Q.out).trans q0, (hb.cell (p := ⟨w.heap.size, 1, none⟩) Q.out).trans q1, (hb.cell (p := ⟨w.heap.size, 2, none⟩) Q.out).trans q2⟩)
    clear q0 q1 q2
    refine (M.out _).mono ?_
    rintro e w2 ⟨rfl, hb⟩
    obtain ⟨q0, q1, q2⟩ := HQ.out _ hb
    have RA := Lib.hid (rall_any a n cap ws s k w2 (HH.out.below (B1.out.trans (hb.mono B1.out.size))) hn HL.out hs)
    have B2 := Lib.hid hb
    clear hb
    go_wp2_with fail
    refine RA.out.mono ?_
    rintro e w3 ⟨a2, c2, rfl, hown, hb⟩
    clear q0 q1 q2
    obtain ⟨q0, q1, q2⟩ := HQ.out _ (B2.out.trans (hb.mono B2.out.size))
    have B3 := Lib.hid ((B1.out.trans (B2.out.mono B1.out.size)).trans (hb.mono (Nat.le_trans B1.out.size B2.out.size)))
    have O3 := Lib.hid (hown.mono' (B := w.heap.size) (Nat.le_trans B1.out.size B2.out.size))
    have hcap := (owns_none hown).2
    obtain ⟨L, hL⟩ : ∃ L, (allK ws s k).length = L := ⟨_, rfl⟩
    rw [hL] at O3 hcap ⊢
    have HLL := Lib.hid hL
    clear hown hb hL
    go_wp2_with fail
    go_ret
    refine retI_take (k := (min (L : Int) (mm : Int)).toNat) (ys := allK ws s k) ?_ (by omega) HLL.out O3.out B3.out _ rfl
    rw [HT.out, ← HLL.out]; exact take_min _ mm
end Go.Proofs.Ytmpkmgkafhlpjaa
