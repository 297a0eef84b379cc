/- fair: wakes (by gen/fa5.py) -/
import Derived.Test.YteloiibejkflhaaQFa4
namespace Go.Proofs.Yteloiibejkflhaa
open Go.RowKit
set_option linter.unusedVariables false
set_option maxRecDepth 20000
def IdxB (f : Nat → Bool) (n : Nat) (w : World) (e : Ending) (w' : World) : Prop := ∃ r : Int, e = .returned (.int .i64 r) ∧ decide (r ≥ 0) = (List.range n).any (fun i => !f i) ∧ w' = w
set_option maxHeartbeats 1600000 in
theorem bindex_any (b n cap : Nat) (f : Nat → Bool) (w : World) (hh : ∀ i, i < n → w.cell? ⟨b, i, none⟩ = some (.bool (f i))) (hn : n ≤ 1000) :
    Calls Try.prog 59 #[.slice (some ⟨b, 0, none⟩) n cap, .bool false] w (IdxB f n w) := by
  have HH := Lib.hid hh
  clear hh
  go_enter Try.func59, Try.ntmps59
  go_wp2_with fail
  go_loopw [8] (fun iv wr => ∃ j : Nat, j ≤ n ∧ iv = .int .i64 j ∧ Hid (∀ i, i < j → f i = true) ∧ wr = w) (fun iv _ => n - (intOf iv).toNat)
  case atStart => exact ⟨0, by omega, rfl, Lib.hid (fun i hi => by omega), rfl⟩
  case round =>
    obtain ⟨j, hj, rfl, hS, rfl⟩ := hrel
    by_cases hlt : j < n
    · have hx := HH.out j hlt
      obtain ⟨y, hy⟩ : ∃ y, f j = y := ⟨_, rfl⟩
      have HY := Lib.hid hy
      rw [hy] at hx
      have i1 : (0 : Int) ≤ (j : Int) := by omega
      have i2 : (j : Int) < (n : Int) := by omega
      clear hy
      cases y
      · have AN := Lib.hid (show (List.range n).any (fun i => !f i) = true from List.any_eq_true.2 ⟨j, List.mem_range.2 hlt, by rw [HY.out]; rfl⟩)
        go_wp2_with fail
        go_ret
        exact ⟨(j : Int), rfl, by rw [AN.out]; exact decide_eq_true (by omega), rfl⟩
      · have S2 := Lib.hid (show ∀ i, i < j + 1 → f i = true from fun i hi => by
          rcases Nat.lt_succ_iff_lt_or_eq.1 hi with e | e
          · exact hS.out i e
          · subst e; exact HY.out)
        go_wp2_with fail
        go_roundw
        case rel => exact ⟨j + 1, by omega, by go_num, S2, trivial⟩
        case measure => simp [intOf]; omega
    · have AN := Lib.hid (show (List.range n).any (fun i => !f i) = false from by
        rw [List.any_eq_false]
        intro i hi
        have := hS.out i (by have := List.mem_range.1 hi; omega)
        simp [this])
      go_wp2_with fail
      go_ret
      exact ⟨-1, rfl, by rw [AN.out]; rfl, rfl⟩
theorem bcontains_any (b n cap : Nat) (f : Nat → Bool) (w : World) (hh : ∀ i, i < n → w.cell? ⟨b, i, none⟩ = some (.bool (f i))) (hn : n ≤ 1000) :
    Calls Try.prog 48 #[.slice (some ⟨b, 0, none⟩) n cap, .bool false] w fun e w' => e = .returned (.bool ((List.range n).any (fun i => !f i))) ∧ w' = w := by
  obtain ⟨z, hz⟩ : ∃ z, (List.range n).any (fun i => !f i) = z := ⟨_, rfl⟩
  have CI := Lib.hid (bindex_any b n cap f w hh hn)
  rw [hz]
  have HZ := Lib.hid hz
  clear hh hz
  go_enter Try.func48, Try.ntmps48
  go_wp2_with fail
  refine CI.out.mono ?_
  rintro e w2 ⟨r, rfl, hr, rfl⟩
  rw [HZ.out] at hr
  go_wp2_with fail
  go_ret
  exact ⟨rfl, rfl⟩
def wokP (W : Int) (i : Nat) (x : RecP) : Bool := decide (x.kd = 4) && (decide (0 ≤ x.nd ∧ x.nd ≤ W) && decide (x.nd = (i : Int)))
def wokB (W : Int) (xs : List RecP) (i : Nat) : Bool := xs.any (wokP W i)
theorem heap_set5 {w : World} {p i : Nat} {v : Value} {t : TypeId} (h : ∃ cs, w.heap[p]? = some (.cells cs t (0, 0))) : ∃ cs, (w.setCell ⟨p, i, none⟩ v).heap[p]? = some (.cells cs t (0, 0)) := by
  obtain ⟨cs, h⟩ := h
  rw [setCell_eq_setRow w p i cs t _ v h]
  exact ⟨_, setRow_heap w p cs _ t _ h⟩
theorem wokB_next (W : Int) (xs : List RecP) (j : Nat) (x : RecP) (h : xs.take (j + 1) = xs.take j ++ [x]) (i : Nat) : wokB W (xs.take (j + 1)) i = (wokB W (xs.take j) i || wokP W i x) := by
  unfold wokB
  rw [h, List.any_append]
  simp
/-- each node from 0 to W wakes -/
def wakesB (W : Int) (xs : List RecP) : Bool := (List.range (W.toNat + 1)).all (wokB W xs)
theorem wakesB_any (W : Int) (xs : List RecP) : (!(List.range (W.toNat + 1)).any (fun i => !wokB W xs i)) = wakesB W xs := by
  unfold wakesB
  rw [List.any_eq_not_all_not]
  simp
theorem slice6 (p n : Nat) (w : World) (h : (n : Int) ≤ 5) : (Instr.sliceAt 77 (.pointer (some ⟨p, 0, none⟩)) none (some (.int .i64 ((n : Int) + 1))) none).run Try.prog w = .ok (.slice (some ⟨p, 0, none⟩) (n + 1) 6) w := by
  have hal : Try.prog.arrayLen 77 = 6 := by kernel_rfl
  rw [run_sliceAt_array_h w 77 ⟨p, 0, none⟩ (by kernel_rfl) .i64 ((n : Int) + 1) (by omega) (by rw [hal]; omega), hal]
  have hs : (sizeOf (Try.prog.elem 77)).run Try.prog w = .ok 1 w := by kernel_rfl
  rw [hs]
  have e : ((n : Int) + 1).toNat = n + 1 := by omega
  simp only [Result.andThen, slicedAt, e]
  rfl
set_option maxHeartbeats 3200000 in
set_option maxRecDepth 100000 in
theorem vwakes_any (W : Int) (ra : Option Addr) (rn rc : Nat) (ga : Option Addr) (k gc mb : Nat) (a : Option Addr) (n cap : Nat) (xs : List RecP) (w : World) (hh : HoldsRc w a n xs) (hn : n ≤ 1000) (hW : 0 ≤ W ∧ W ≤ 5) :
    Calls Try.prog 35 #[.agg #[.int .i64 W, .slice ra rn rc, .slice ga k gc, .map (some mb)], .slice a n cap] w fun e w' => e = .returned (.bool (wakesB W xs)) ∧ Below w.heap.size w w' := by
  have BX := Lib.hid (below_one w (.cells #[.int .i64 W, .slice ra rn rc, .slice ga k gc, .map (some mb)] 60))
  have VN := view_new w W ra rn rc ga k gc mb w.heap.size rfl 60
  have h0 := VN.1.1
  obtain ⟨w1, hw1⟩ : ∃ w1, w.alloc (.cells #[.int .i64 W, .slice ra rn rc, .slice ga k gc, .map (some mb)] 60) = w1 := ⟨_, rfl⟩
  rw [hw1] at BX h0
  obtain ⟨q, hq⟩ : ∃ q, w.heap.size = q := ⟨_, rfl⟩
  rw [hq] at h0
  have HQ := Lib.hid hq
  have hB := heap_alloc_new w1 (.cells #[.bool false, .bool false, .bool false, .bool false, .bool false, .bool false] 77)
  have b12 : Below w1.heap.size w1 (w1.alloc (.cells #[.bool false, .bool false, .bool false, .bool false, .bool false, .bool false] 77)) := below_one w1 _
  obtain ⟨w2, hw2⟩ : ∃ w2, w1.alloc (.cells #[.bool false, .bool false, .bool false, .bool false, .bool false, .bool false] 77) = w2 := ⟨_, rfl⟩
  rw [hw2] at hB b12
  obtain ⟨p, hp⟩ : ∃ p, w1.heap.size = p := ⟨_, rfl⟩
  rw [hp] at hB
  have hqp : q < p := by rw [← hp]; exact lt_of_cell h0
  have PQ := Lib.hid hqp
  have HPL := Lib.hid hp
  have HH := Lib.hid hh
  have HN := Lib.hid hh.len
  have H0 := Lib.hid ((b12.cell (p := ⟨q, 0, none⟩) (lt_of_cell h0)).trans h0)
  have B2 := Lib.hid (BX.out.trans (b12.mono BX.out.size))
  have P0 := Lib.hid (show ∃ cs, w2.heap[p]? = some (.cells cs 77 (0, 0)) from ⟨_, hB⟩)
  have F0 := Lib.hid (show ∀ i, i < 6 → w2.cell? ⟨p, i, none⟩ = some (.bool (wokB W (xs.take 0) i)) from fun i hi => by
    have : wokB W (xs.take 0) i = false := by simp [wokB]
    rw [this]
    rcases (show i = 0 ∨ i = 1 ∨ i = 2 ∨ i = 3 ∨ i = 4 ∨ i = 5 by omega) with rfl | rfl | rfl | rfl | rfl | rfl <;> exact cellT hB rfl)
  clear hh VN h0 hB b12 hqp
  go_enter Try.func35, Try.ntmps35
  go_upto_region 2 with fail
  try rw [hw1]
  try rw [hw2]
  try simp only [hp, hq]
  clear hw1 hw2 hq hp
  go_wp2_with fail
  go_loopw [7, 10] (fun rv iv wr => ∃ (j : Nat), j ≤ n ∧ iv = .int .i64 j ∧ Hid (∀ i, i < 6 → wr.cell? ⟨p, i, none⟩ = some (.bool (wokB W (xs.take j) i))) ∧ Hid (wr.cell? ⟨q, 0, none⟩ = some (.int .i64 W)) ∧ Hid (∃ cs, wr.heap[p]? = some (.cells cs 77 (0, 0))) ∧ Hid (Below w.heap.size w wr)) (fun _ iv _ => n - (intOf iv).toNat)
  case atStart => exact ⟨0, by omega, rfl, F0, H0, P0, B2⟩
  case round =>
    obtain ⟨j, hj, rfl, hF, hQ0, hP, hB⟩ := hrel
    by_cases hlt : j < n
    · obtain ⟨rb, ro, rfl, hc⟩ := (HH.out.below hB.out).at_ (by omega)
      have hx12 := hc j hlt
      obtain ⟨x, hxe⟩ : ∃ x, xs.getD j r0 = x := ⟨_, rfl⟩
      have TK := take_succ_getD xs r0 j (by rw [HN.out]; exact hlt)
      rw [hxe] at hx12 TK
      have WN := Lib.hid (wokB_next W xs j x TK)
      obtain ⟨c0, c1', c2', c3, c4, c5, c6, c7, c8, c9, c10, c11⟩ := hx12
      have i1 : (0 : Int) ≤ (j : Int) := by omega
      have i2 : (j : Int) < (n : Int) := by omega
      have RX := below_one wr (.cells #[.int .i64 x.kd, .int .i64 x.nd, .int .i64 x.at_, .int .i64 x.ex, .string x.qt, .int .i64 x.qk, .int .i64 x.qn, .int .i64 x.vd, .int .i64 x.id, .slice x.sa x.sn x.sc, .int .i64 x.got, .slice x.la x.ln x.lc] 43)
      have SX := Lib.hid (recIn_new wr x wr.heap.size 43 (0, 0) rfl)
      have B3 := Lib.hid (show Below w.heap.size w (wr.alloc (.cells #[.int .i64 x.kd, .int .i64 x.nd, .int .i64 x.at_, .int .i64 x.ex, .string x.qt, .int .i64 x.qk, .int .i64 x.qn, .int .i64 x.vd, .int .i64 x.id, .slice x.sa x.sn x.sc, .int .i64 x.got, .slice x.la x.ln x.lc] 43)) from hB.out.trans (RX.mono hB.out.size))
      have F3 := Lib.hid (show ∀ i, i < 6 → (wr.alloc (.cells #[.int .i64 x.kd, .int .i64 x.nd, .int .i64 x.at_, .int .i64 x.ex, .string x.qt, .int .i64 x.qk, .int .i64 x.qn, .int .i64 x.vd, .int .i64 x.id, .slice x.sa x.sn x.sc, .int .i64 x.got, .slice x.la x.ln x.lc] 43)).cell? ⟨p, i, none⟩ = some (.bool (wokB W (xs.take j) i)) from fun i hi => (RX.cell (p := ⟨p, i, none⟩) (lt_of_cell (hF.out i hi))).trans (hF.out i hi))
      have Q3 := (RX.cell (p := ⟨q, 0, none⟩) (lt_of_cell hQ0.out)).trans hQ0.out
      have P3 := Lib.hid (show ∃ cs, (wr.alloc (.cells #[.int .i64 x.kd, .int .i64 x.nd, .int .i64 x.at_, .int .i64 x.ex, .string x.qt, .int .i64 x.qk, .int .i64 x.qn, .int .i64 x.vd, .int .i64 x.id, .slice x.sa x.sn x.sc, .int .i64 x.got, .slice x.la x.ln x.lc] 43)).heap[p]? = some (.cells cs 77 (0, 0)) from by obtain ⟨cs, h⟩ := hP.out; exact ⟨cs, keepT h RX⟩)
      clear hc hxe TK RX hP
      go_upto_region 5 with fail
      clear c0 c1' c2' c3 c4 c5 c6 c7 c8 c9 c10 c11
      generalize wr.alloc (.cells #[.int .i64 x.kd, .int .i64 x.nd, .int .i64 x.at_, .int .i64 x.ex, .string x.qt, .int .i64 x.qk, .int .i64 x.qn, .int .i64 x.vd, .int .i64 x.id, .slice x.sa x.sn x.sc, .int .i64 x.got, .slice x.la x.ln x.lc] 43) = w3 at *
      generalize wr.heap.size = u at *
      obtain ⟨y0, y1, -, -, -, -, -, -, -, -, -, -⟩ := SX.out
      simp only [Nat.zero_add] at y0 y1
      by_cases e4 : x.kd = 4
      · have d4 : decide (x.kd = 4) = true := decide_eq_true e4
        obtain ⟨g, hg⟩ : ∃ g, x.nd = g := ⟨_, rfl⟩
        rw [hg] at y1
        by_cases er : 0 ≤ g ∧ g ≤ W
        · have CI := Lib.hid (pin_lit g 0 W true w3 (decide_eq_true er))
          obtain ⟨m, rfl⟩ : ∃ m : Nat, g = (m : Int) := ⟨g.toNat, by omega⟩
          have hm6 : m < 6 := by omega
          have hcm := F3.out m hm6
          have F4 := Lib.hid (show ∀ i, i < 6 → (w3.setCell ⟨p, m, none⟩ (.bool true)).cell? ⟨p, i, none⟩ = some (.bool (wokB W (xs.take (j + 1)) i)) from fun i hi => by
            rw [WN.out i]
            by_cases e : i = m
            · subst e
              rw [cset_at hcm]
              simp [wokP, e4, hg, er]
            · rw [cset_ne (by omega), F3.out i hi]
              have : wokP W i x = false := by
                unfold wokP
                rw [hg, show decide ((m : Int) = (i : Int)) = false from decide_eq_false (by omega)]
                simp
              rw [this, Bool.or_false])
          have Q4 := Lib.hid (show (w3.setCell ⟨p, m, none⟩ (.bool true)).cell? ⟨q, 0, none⟩ = some (.int .i64 W) from (cset_far (by have := PQ.out; omega)).trans Q3)
          have B4 := Lib.hid (show Below w.heap.size w (w3.setCell ⟨p, m, none⟩ (.bool true)) from B3.out.setCell (by have := PQ.out; have := HQ.out; show w.heap.size ≤ p; omega) _)
          have m1 : (0 : Int) ≤ (m : Int) := by omega
          have m2 : (m : Int) < 6 := by omega
          have P4 := Lib.hid (heap_set5 (i := m) (v := .bool true) P3.out)
          have fz : w3.frozen? ⟨p, m, none⟩ = false := by obtain ⟨cs, h⟩ := P3.out; simp [World.frozen?, h]
          clear hg
          go_wp2_with (first | (go_at_call 19; refine CI.out.mono ?_; rintro e w' ⟨rfl, rfl⟩) | fail)
          go_roundw
          case rel => exact ⟨j + 1, by omega, by go_num, F4, Q4, P4, B4⟩
          case measure => simp [intOf]; omega
        · have CI := Lib.hid (pin_lit g 0 W false w3 (decide_eq_false er))
          have F4 := Lib.hid (show ∀ i, i < 6 → w3.cell? ⟨p, i, none⟩ = some (.bool (wokB W (xs.take (j + 1)) i)) from fun i hi => by
            have : wokP W i x = false := by
              unfold wokP
              rw [hg, show decide (0 ≤ g ∧ g ≤ W) = false from decide_eq_false er]
              simp
            rw [WN.out i, this, Bool.or_false]
            exact F3.out i hi)
          have Q4 := Lib.hid Q3
          clear hg er
          go_wp2_with (first | (go_at_call 19; refine CI.out.mono ?_; rintro e w' ⟨rfl, rfl⟩) | fail)
          go_roundw
          case rel => exact ⟨j + 1, by omega, by go_num, F4, Q4, P3, B3⟩
          case measure => simp [intOf]; omega
      · have d4 : decide (x.kd = 4) = false := decide_eq_false e4
        have F4 := Lib.hid (show ∀ i, i < 6 → w3.cell? ⟨p, i, none⟩ = some (.bool (wokB W (xs.take (j + 1)) i)) from fun i hi => by
          have : wokP W i x = false := by
            unfold wokP
            rw [d4]; rfl
          rw [WN.out i, this, Bool.or_false]
          exact F3.out i hi)
        have Q4 := Lib.hid Q3
        go_wp2_with fail
        go_roundw
        case rel => exact ⟨j + 1, by omega, by go_num, F4, Q4, P3, B3⟩
        case measure => simp [intOf]; omega
    · have hjn : xs.take j = xs := List.take_of_length_le (by rw [HN.out]; omega)
      have hF2 := hF.out
      rw [hjn] at hF2
      obtain ⟨W', rfl⟩ : ∃ W' : Nat, W = (W' : Int) := ⟨W.toNat, by omega⟩
      have CB := fun cap => bcontains_any p (W' + 1) cap (wokB (W' : Int) xs) wr (fun i hi => hF2 i (by omega)) (by omega)
      have WA := wakesB_any (W' : Int) xs
      rw [Int.toNat_natCast] at WA
      obtain ⟨z, hz⟩ : ∃ z, (List.range (W' + 1)).any (fun i => !wokB (W' : Int) xs i) = z := ⟨_, rfl⟩
      rw [hz] at CB WA
      have CBH := Lib.hid CB
      have WAH := Lib.hid WA
      have q0 := hQ0.out
      have w1 : (0 : Int) ≤ (W' : Int) := by omega
      have w2' : (W' : Int) ≤ 5 := by omega
      have eW : IntKind.i64.wrap ((W' : Int) + 1) = (W' : Int) + 1 := by rw [IntKind.wrap_i64]; omega
      have eT : ((W' : Int) + 1).toNat = W' + 1 := by omega
      have l0 : (0 : Int) ≤ (W' : Int) + 1 := by omega
      have l1 : (W' : Int) + 1 ≤ (Try.prog.arrayLen 77 : Int) := by rw [show Try.prog.arrayLen 77 = 6 from by kernel_rfl]; omega
      have se := slice6 p W' wr w2'
      clear hjn hF2 CB WA hz hF
      go_wp2_with (first | (go_at_call 48; refine (CBH.out _).mono ?_; rintro e w' ⟨rfl, rfl⟩) | fail)
      go_ret
      exact ⟨by rw [← WAH.out]; try rfl, hB.out⟩
end Go.Proofs.Yteloiibejkflhaa
