/- msg: plain messages; which may be (items, what is behind) -/
import Derived.Test.YthboiklcjpnhbaaRk1
import Derived.Test.YthboiklcjpnhbaaAs1
import Derived.Test.YthboiklcjpnhbaaKp4
import Derived.Test.YthboiklcjpnhbaaSfAsks
import Derived.Test.YthboiklcjpnhbaaPairItems
import Derived.Deep.RegionHeld3
namespace Go.Proofs.Ythboiklcjpnhbaa
open Go.RowKit
set_option linter.unusedVariables false
set_option maxRecDepth 20000
def inR (x lo hi : Int) : Bool := decide (lo ≤ x ∧ x ≤ hi)
theorem min_lit (n lo hi : Int) (c : Bool) (w : World) (h : inR n lo hi = c) :
    Calls Try.prog 60 #[.int .i64 n, .int .i64 lo, .int .i64 hi] w fun e w' => e = .returned (.bool c) ∧ w = w' := by
  unfold inR at h
  subst h
  go_enter Try.func60, Try.ntmps60
  go_wp2
  all_goals (go_ret; exact ⟨ret_bool (by simp; try omega), rfl⟩)
theorem isNumber_lit (n : Int) (c : Bool) (w : World) (h : inR n 0 2147483647 = c) : Calls Try.prog 55 #[.int .i64 n] w fun e w' => e = .returned (.bool c) ∧ w = w' := by
  have C := Lib.hid (min_lit n 0 2147483647 c w h)
  clear h
  go_enter Try.func55, Try.ntmps55
  go_wp2_with fail
  refine C.out.mono ?_
  rintro e w' ⟨rfl, rfl⟩
  go_wp2_with fail
  go_ret
  exact ⟨rfl, rfl⟩
theorem isWorker_lit (n : Int) (c : Bool) (w : World) (h : inR n 1 5 = c) : Calls Try.prog 54 #[.int .i64 n] w fun e w' => e = .returned (.bool c) ∧ w = w' := by
  have C := Lib.hid (min_lit n 1 5 c w h)
  clear h
  go_enter Try.func54, Try.ntmps54
  go_wp2_with fail
  refine C.out.mono ?_
  rintro e w' ⟨rfl, rfl⟩
  go_wp2_with fail
  go_ret
  exact ⟨rfl, rfl⟩
theorem isSlot_lit (n : Int) (c : Bool) (w : World) (h : inR n 0 3 = c) : Calls Try.prog 56 #[.int .i64 n] w fun e w' => e = .returned (.bool c) ∧ w = w' := by
  have C := Lib.hid (min_lit n 0 3 c w h)
  clear h
  go_enter Try.func56, Try.ntmps56
  go_wp2_with fail
  refine C.out.mono ?_
  rintro e w' ⟨rfl, rfl⟩
  go_wp2_with fail
  go_ret
  exact ⟨rfl, rfl⟩
theorem isShard_lit (n : Int) (c : Bool) (w : World) (h : inR n 0 5 = c) : Calls Try.prog 57 #[.int .i64 n] w fun e w' => e = .returned (.bool c) ∧ w = w' := by
  have C := Lib.hid (min_lit n 0 5 c w h)
  clear h
  go_enter Try.func57, Try.ntmps57
  go_wp2_with fail
  refine C.out.mono ?_
  rintro e w' ⟨rfl, rfl⟩
  go_wp2_with fail
  go_ret
  exact ⟨rfl, rfl⟩
theorem isDist_lit (n : Int) (c : Bool) (w : World) (h : inR n 0 4 = c) : Calls Try.prog 59 #[.int .i64 n] w fun e w' => e = .returned (.bool c) ∧ w = w' := by
  have C := Lib.hid (min_lit n 0 4 c w h)
  clear h
  go_enter Try.func59, Try.ntmps59
  go_wp2_with fail
  refine C.out.mono ?_
  rintro e w' ⟨rfl, rfl⟩
  go_wp2_with fail
  go_ret
  exact ⟨rfl, rfl⟩
def mayItem (k : KV) : Bool := inR k.1 0 4 && decide (wordP k.2)
theorem box2m (w : World) (u v : Value) (t : TypeId) : (w.alloc (.cells #[u, v] t)).cell? ⟨w.heap.size, 0, none⟩ = some u ∧ (w.alloc (.cells #[u, v] t)).cell? ⟨w.heap.size, 1, none⟩ = some v := ⟨by rw [World.cell?_alloc_mark]; rfl, by rw [World.cell?_alloc_mark]; rfl⟩
theorem validItem_lit (k1 : Int) (k2 : Tx) (c : Bool) (w : World) (hs : k2.size ≤ 9223372036854775807) (h : mayItem (k1, k2) = c) :
    Calls Try.prog 82 #[.agg #[.int .i64 k1, .string k2]] w fun e w' => e = .returned (.bool c) ∧ Below w.heap.size w w' := by
  unfold mayItem at h
  simp only at h
  obtain ⟨z1, h1⟩ : ∃ z, inR k1 0 4 = z := ⟨_, rfl⟩
  obtain ⟨z2, h2⟩ : ∃ z, decide (wordP k2) = z := ⟨_, rfl⟩
  rw [h1, h2] at h
  have C1 := Lib.hid (fun w => isDist_lit k1 z1 w h1)
  have C2 := Lib.hid (fun w => word_bool' (w := w) k2 z2 hs h2)
  have BX := Lib.hid (below_one w (.cells #[.int .i64 k1, .string k2] 27))
  clear h1 h2 hs
  cases z1
  · simp only [Bool.false_and] at h
    subst h
    clear C2
    go_enter Try.func82, Try.ntmps82
    go_wp2_with fail
    refine (C1.out _).mono ?_
    rintro e w' ⟨rfl, rfl⟩
    go_wp2_with fail
    go_ret
    exact ⟨rfl, BX.out⟩
  · simp only [Bool.true_and] at h
    subst h
    go_enter Try.func82, Try.ntmps82
    go_wp2_with fail
    refine (C1.out _).mono ?_
    rintro e w' ⟨rfl, rfl⟩
    go_wp2_with fail
    refine (C2.out _).mono ?_
    rintro e w' ⟨rfl, hb⟩
    have BE := Lib.hid (BX.out.trans (hb.mono BX.out.size))
    clear hb
    go_wp2_with fail
    go_ret
    exact ⟨rfl, BE.out⟩
def mayAfter (first : Bool) (k : KV) : Bool := if first then (decide (k.1 = 0) && k.2.toList.isEmpty) else mayItem k
theorem validAfter_lit (first : Bool) (k1 : Int) (k2 : Tx) (c : Bool) (w : World) (hs : k2.size ≤ 9223372036854775807) (h : mayAfter first (k1, k2) = c) :
    Calls Try.prog 61 #[.bool first, .agg #[.int .i64 k1, .string k2]] w fun e w' => e = .returned (.bool c) ∧ Below w.heap.size w w' := by
  have BX := Lib.hid (below_one w (.cells #[.int .i64 k1, .string k2] 27))
  unfold mayAfter at h
  cases first
  · simp only [Bool.false_eq_true, if_false] at h
    have CI := Lib.hid (fun w => validItem_lit k1 k2 c w hs h)
    clear h hs
    go_enter Try.func61, Try.ntmps61
    go_wp2_with fail
    refine (CI.out _).mono ?_
    rintro e w' ⟨rfl, hb⟩
    have BE := Lib.hid (BX.out.trans (hb.mono BX.out.size))
    clear hb
    go_wp2_with fail
    go_ret
    exact ⟨rfl, BE.out⟩
  · simp only [if_true] at h
    clear hs
    by_cases e : k1 = 0
    · subst e
      by_cases e2 : k2.toList = []
      · obtain rfl : c = true := by rw [← h]; simp [e2]
        have f1 : k2.toList.isEmpty = true := by simp [e2]
        have f2 : (k2.toList == []) = true := by simp [e2]
        have E2 := Lib.hid e2
        clear h e2
        go_enter Try.func61, Try.ntmps61
        go_wp2_with fail
        go_ret
        exact ⟨rfl, BX.out⟩
      · obtain rfl : c = false := by rw [← h]; simp [e2]
        have f1 : k2.toList.isEmpty = false := by simp [e2]
        have f2 : (k2.toList == []) = false := by simp [e2]
        have f3 : (!k2.toList.isEmpty) = true := by simp [e2]
        clear h
        go_enter Try.func61, Try.ntmps61
        go_wp2_with fail
        go_ret
        exact ⟨rfl, BX.out⟩
    · obtain rfl : c = false := by rw [← h]; simp [e]
      have f0 : (k1 == 0) = false := by simpa using e
      clear h
      go_enter Try.func61, Try.ntmps61
      go_wp2_with fail
      go_ret
      exact ⟨rfl, BX.out⟩
theorem vi_carry {w1 w' w'' : World} {p : Nat} {u v : Value} (h : Below w1.heap.size w1 w' ∧ w'.cell? ⟨p, 0, none⟩ = some u ∧ w'.cell? ⟨p, 1, none⟩ = some v) (hb : Below w'.heap.size w' w'') : Below w1.heap.size w1 w'' ∧ w''.cell? ⟨p, 0, none⟩ = some u ∧ w''.cell? ⟨p, 1, none⟩ = some v :=
  ⟨h.1.trans (hb.mono h.1.size), (hb.cell (p := ⟨p, 0, none⟩) (lt_of_cell h.2.1)).trans h.2.1, (hb.cell (p := ⟨p, 1, none⟩) (lt_of_cell h.2.2)).trans h.2.2⟩
theorem vi_carry2 {w1 w' w'' : World} {p q o : Nat} {u v x y : Value} (h : (Below w1.heap.size w1 w' ∧ w'.cell? ⟨p, 0, none⟩ = some u ∧ w'.cell? ⟨p, 1, none⟩ = some v) ∧ w'.cell? ⟨q, o, none⟩ = some x ∧ w'.cell? ⟨q, o + 1, none⟩ = some y) (hb : Below w'.heap.size w' w'') : (Below w1.heap.size w1 w'' ∧ w''.cell? ⟨p, 0, none⟩ = some u ∧ w''.cell? ⟨p, 1, none⟩ = some v) ∧ w''.cell? ⟨q, o, none⟩ = some x ∧ w''.cell? ⟨q, o + 1, none⟩ = some y :=
  ⟨vi_carry h.1 hb, (hb.cell (p := ⟨q, o, none⟩) (lt_of_cell h.2.1)).trans h.2.1, (hb.cell (p := ⟨q, o + 1, none⟩) (lt_of_cell h.2.2)).trans h.2.2⟩
def stepI (ks : List KV) (i : Nat) : Bool := mayItem (ks.getD i k0) && (decide (i = 0) || lessK (ks.getD (i - 1) k0) (ks.getD i k0))
def fitI (ks : List KV) (n : Nat) : Bool := (List.range n).all (stepI ks)
theorem fitI_succ (ks : List KV) (n : Nat) : fitI ks (n + 1) = (fitI ks n && stepI ks n) := by
  unfold fitI; rw [List.range_succ, List.all_append]; simp
theorem fitI_stop {ks : List KV} {j : Nat} (h : fitI ks j = false) : ∀ n, j ≤ n → fitI ks n = false
  | 0, hj => by obtain rfl : j = 0 := by omega
                exact h
  | n + 1, hj => by
    rcases Nat.eq_or_lt_of_le hj with e | e
    · subst e; exact h
    · rw [fitI_succ, fitI_stop h n (by omega)]; rfl
def mayItems (ks : List KV) : Bool := decide (ks.length ≤ 5) && fitI ks ks.length
set_option maxHeartbeats 3200000 in
theorem validItems_lit (a : Option Addr) (n cap : Nat) (ks : List KV) (c : Bool) (w : World) (hh : HoldsK w a n ks) (hs : ∀ k ∈ ks, k.2.size ≤ 9223372036854775807) (hn : n ≤ 9223372036854775807) (h : mayItems ks = c) :
    Calls Try.prog 62 #[.slice a n cap] w fun e w' => e = .returned (.bool c) ∧ Below w.heap.size w w' := by
  have HL := Lib.hid hh.len
  have HH := Lib.hid hh; have HS := Lib.hid hs
  unfold mayItems at h
  rw [hh.len] at h
  clear hh hs
  by_cases h5 : n ≤ 5
  · rw [decide_eq_true h5, Bool.true_and] at h
    have HC := Lib.hid h
    have d1 : decide ((n : Int) > 5) = false := decide_eq_false (by omega)
    have d2 : decide (5 < n) = false := decide_eq_false (by omega)
    clear h
    go_enter Try.func62, Try.ntmps62
    go_wp2_with fail
    go_loopw [10] (fun iv wr => ∃ j : Nat, j ≤ n ∧ iv = .int .i64 (j : Int) ∧ Hid (fitI ks j = true) ∧ Hid (Below w.heap.size w wr)) (fun iv _ => n - (intOf iv).toNat)
    case atStart => exact ⟨0, by omega, rfl, Lib.hid rfl, Lib.hid (Below.refl _ _)⟩
    case round =>
      obtain ⟨j, hj, rfl, hF, hB⟩ := hrel
      rename World => wr
      by_cases hlt : j < n
      · obtain ⟨qb, qo, rfl, hcc⟩ := HH.out.at (by omega)
        have hcc2 := Lib.hid hcc
        obtain ⟨x0, x1⟩ := hcc j hlt
        obtain ⟨k, hk⟩ : ∃ k, ks.getD j k0 = k := ⟨_, rfl⟩
        have hks := HS.out k (by rw [← hk]; exact getD_memK ks j (by rw [HL.out]; exact hlt))
        have hst := fitI_succ ks j
        rw [hF.out, Bool.true_and] at hst
        unfold stepI at hst
        rw [hk] at x0 x1 hst
        obtain ⟨k1, k2⟩ := k
        simp only at x0 x1 hks
        obtain ⟨z1, hz1⟩ : ∃ z, mayItem (k1, k2) = z := ⟨_, rfl⟩
        rw [hz1] at hst
        have C1 := Lib.hid (fun w => validItem_lit k1 k2 z1 w hks hz1)
        have y0 := (hB.out.cell (p := ⟨qb, qo + j * 2, none⟩) (lt_of_cell x0)).trans x0
        have y1 := (hB.out.cell (p := ⟨qb, qo + j * 2 + 1, none⟩) (lt_of_cell x1)).trans x1
        have n1 : (0 : Int) ≤ (j : Int) := by omega
        have n2 : (j : Int) < (n : Int) := by omega
        have STOP := Lib.hid (fun (h : fitI ks (j + 1) = false) => (show c = false from by rw [← HC.out]; exact fitI_stop h n (by omega)))
        have HST := Lib.hid hst
        have HK := Lib.hid hk
        have BX := Lib.hid (below_one wr (.cells #[.int .i64 k1, .string k2] 27))
        have XB := Lib.hid (box2m wr (.int .i64 k1) (.string k2) 27)
        have BW := Lib.hid (hB.out.trans (BX.out.mono hB.out.size))
        clear x0 x1 hz1 hst hk hks hcc
        go_upto_region 6 with fail
        obtain ⟨b0, b1⟩ := XB.out
        generalize wr.alloc (.cells #[.int .i64 k1, .string k2] 27) = w1 at *
        generalize wr.heap.size = p at *
        have TD := Lib.hid (show Below w1.heap.size w1 w1.drew ∧ w1.drew.cell? ⟨p, 0, none⟩ = some (.int .i64 k1) ∧ w1.drew.cell? ⟨p, 1, none⟩ = some (.string k2) from ⟨(Below.refl _ _).drew, b0, b1⟩)
        cases z1
        · obtain rfl : c = false := STOP.out (by rw [HST.out]; rfl)
          clear y0 y1 STOP HST b0 b1
          refine wp_region_held_drew (S := (fun w' => Below w1.heap.size w1 w' ∧ w'.cell? ⟨p, 0, none⟩ = some (.int .i64 k1) ∧ w'.cell? ⟨p, 1, none⟩ = some (.string k2))) (by kernel_rfl) TD.out (fun hHeld0 => ?_)
          refine wpAnyH_take (i := 0) (oi := { dst := some 15, op := Op.load 27 (Operand.tmp 4), type := 27, pos := "valid.go:45", after := #[], guard := none }) (v := ?va0) rfl (by kernel_rfl) (by kernel_rfl) (by kernel_rfl) (fun _ _ _ h => h) (Or.inl ⟨by rfl, ?hya0⟩) (by assumption) ?resta0
          case hya0 => (intro w hSw; (try dsimp only at hSw); go_simp; (try with_reducible rfl))
          try simp only [Act.put, List.setIfInBounds_toArray, List.set_cons_zero, List.set_cons_succ]
          refine wpAnyH_ready (rs := [1]) (by kernel_rfl) (by simp) ?_
          refine AllReadyH.cons (o := { dst := some 16, op := Op.call { callee := Callee.value (Operand.func 82), args := #[Operand.tmp 15], argTypes := #[27] }, type := 4, pos := "valid.go:45", after := #[{ on := 0, ground := Ground.data }], guard := none }) rfl (fun K hK => ?_) AllReadyH.nil
          go_simp
          go_at_call 82
          refine (C1.out _).mono ?_
          rintro e' w2 ⟨rfl, hb⟩
          go_wp2_with fail
          refine hK.out _ _ ?_ (fun hHeld1 => ?_)
          · exact vi_carry hHeld0 hb
          clear hK K hHeld0 hb
          try simp only [Act.put, List.setIfInBounds_toArray, List.set_cons_zero, List.set_cons_succ]
          refine wpAnyH_take (i := 2) (oi := { dst := some 17, op := Op.unOp UnOp.not 4 (Operand.tmp 16), type := 4, pos := "valid.go:45", after := #[{ on := 1, ground := Ground.data }], guard := none }) (v := ?va2) rfl (by kernel_rfl) (by kernel_rfl) (by kernel_rfl) (fun _ _ _ h => h) (Or.inl ⟨by rfl, ?hya2⟩) (by assumption) ?resta2
          case hya2 => (intro w hSw; (try dsimp only at hSw); go_simp; (try with_reducible rfl))
          try simp only [Act.put, List.setIfInBounds_toArray, List.set_cons_zero, List.set_cons_succ]
          refine wpAnyH_take (i := 3) (oi := { dst := some 18, op := Op.move (Operand.tmp 17), type := 4, pos := "valid.go:45", after := #[{ on := 2, ground := Ground.data }, { on := 1, ground := Ground.chain }], guard := none }) (v := ?va3) rfl (by kernel_rfl) (by kernel_rfl) (by kernel_rfl) (fun _ _ _ h => h) (Or.inl ⟨by rfl, ?hya3⟩) (by assumption) ?resta3
          case hya3 => (intro w hSw; (try dsimp only at hSw); go_simp; (try with_reducible rfl))
          try simp only [Act.put, List.setIfInBounds_toArray, List.set_cons_zero, List.set_cons_succ]
          refine wpAnyH_take (i := 4) (oi := { dst := some 19, op := Op.move (Operand.tmp 3), type := 3, pos := "valid.go:45", after := #[{ on := 3, ground := Ground.guard }], guard := some (3, false) }) rfl (by kernel_rfl) (by kernel_rfl) (by kernel_rfl) (fun _ _ _ h => h) (Or.inr ⟨by rfl, rfl⟩) (by assumption) ?_
          try simp only [Act.put, List.setIfInBounds_toArray, List.set_cons_zero, List.set_cons_succ]
          refine wpAnyH_take (i := 5) (oi := { dst := some 20, op := Op.binOp BinOp.gtr 3 (Operand.tmp 19) (Operand.const (Value.int IntKind.i64 0)) 3, type := 4, pos := "valid.go:45", after := #[{ on := 4, ground := Ground.data }, { on := 3, ground := Ground.guard }], guard := some (3, false) }) rfl (by kernel_rfl) (by kernel_rfl) (by kernel_rfl) (fun _ _ _ h => h) (Or.inr ⟨by rfl, rfl⟩) (by assumption) ?_
          try simp only [Act.put, List.setIfInBounds_toArray, List.set_cons_zero, List.set_cons_succ]
          refine wpAnyH_take (i := 6) (oi := { dst := some 21, op := Op.move (Operand.tmp 20), type := 4, pos := "valid.go:45", after := #[{ on := 5, ground := Ground.data }, { on := 3, ground := Ground.chain }, { on := 3, ground := Ground.guard }], guard := some (3, false) }) rfl (by kernel_rfl) (by kernel_rfl) (by kernel_rfl) (fun _ _ _ h => h) (Or.inr ⟨by rfl, rfl⟩) (by assumption) ?_
          try simp only [Act.put, List.setIfInBounds_toArray, List.set_cons_zero, List.set_cons_succ]
          refine wpAnyH_take (i := 7) (oi := { dst := some 22, op := Op.move (Operand.tmp 0), type := 30, pos := "valid.go:45", after := #[{ on := 6, ground := Ground.guard }], guard := some (6, true) }) rfl (by kernel_rfl) (by kernel_rfl) (by kernel_rfl) (fun _ _ _ h => h) (Or.inr ⟨by rfl, rfl⟩) (by assumption) ?_
          try simp only [Act.put, List.setIfInBounds_toArray, List.set_cons_zero, List.set_cons_succ]
          refine wpAnyH_take (i := 8) (oi := { dst := some 23, op := Op.move (Operand.tmp 3), type := 3, pos := "valid.go:45", after := #[{ on := 6, ground := Ground.guard }], guard := some (6, true) }) rfl (by kernel_rfl) (by kernel_rfl) (by kernel_rfl) (fun _ _ _ h => h) (Or.inr ⟨by rfl, rfl⟩) (by assumption) ?_
          try simp only [Act.put, List.setIfInBounds_toArray, List.set_cons_zero, List.set_cons_succ]
          refine wpAnyH_take (i := 9) (oi := { dst := some 24, op := Op.binOp BinOp.sub 3 (Operand.tmp 23) (Operand.const (Value.int IntKind.i64 1)) 3, type := 3, pos := "valid.go:45", after := #[{ on := 8, ground := Ground.data }, { on := 6, ground := Ground.guard }], guard := some (6, true) }) rfl (by kernel_rfl) (by kernel_rfl) (by kernel_rfl) (fun _ _ _ h => h) (Or.inr ⟨by rfl, rfl⟩) (by assumption) ?_
          try simp only [Act.put, List.setIfInBounds_toArray, List.set_cons_zero, List.set_cons_succ]
          refine wpAnyH_take (i := 10) (oi := { dst := some 25, op := Op.indexAddr 30 (Operand.tmp 22) (Operand.tmp 24), type := 0, pos := "valid.go:45", after := #[{ on := 7, ground := Ground.data }, { on := 9, ground := Ground.data }, { on := 6, ground := Ground.guard }], guard := some (6, true) }) rfl (by kernel_rfl) (by kernel_rfl) (by kernel_rfl) (fun _ _ _ h => h) (Or.inr ⟨by rfl, rfl⟩) (by assumption) ?_
          try simp only [Act.put, List.setIfInBounds_toArray, List.set_cons_zero, List.set_cons_succ]
          refine wpAnyH_take (i := 11) (oi := { dst := some 26, op := Op.load 27 (Operand.tmp 25), type := 27, pos := "valid.go:45", after := #[{ on := 10, ground := Ground.data }, { on := 6, ground := Ground.guard }], guard := some (6, true) }) rfl (by kernel_rfl) (by kernel_rfl) (by kernel_rfl) (fun _ _ _ h => h) (Or.inr ⟨by rfl, rfl⟩) (by assumption) ?_
          try simp only [Act.put, List.setIfInBounds_toArray, List.set_cons_zero, List.set_cons_succ]
          refine wpAnyH_take (i := 12) (oi := { dst := some 27, op := Op.load 27 (Operand.tmp 4), type := 27, pos := "valid.go:45", after := #[{ on := 6, ground := Ground.guard }], guard := some (6, true) }) rfl (by kernel_rfl) (by kernel_rfl) (by kernel_rfl) (fun _ _ _ h => h) (Or.inr ⟨by rfl, rfl⟩) (by assumption) ?_
          try simp only [Act.put, List.setIfInBounds_toArray, List.set_cons_zero, List.set_cons_succ]
          refine wpAnyH_take (i := 13) (oi := { dst := some 28, op := Op.call { callee := Callee.value (Operand.func 83), args := #[Operand.tmp 26, Operand.tmp 27], argTypes := #[27, 27] }, type := 4, pos := "valid.go:45", after := #[{ on := 11, ground := Ground.data }, { on := 12, ground := Ground.data }, { on := 6, ground := Ground.chain }, { on := 6, ground := Ground.guard }], guard := some (6, true) }) rfl (by kernel_rfl) (by kernel_rfl) (by kernel_rfl) (fun _ _ _ h => h) (Or.inr ⟨by rfl, rfl⟩) (by assumption) ?_
          try simp only [Act.put, List.setIfInBounds_toArray, List.set_cons_zero, List.set_cons_succ]
          refine wpAnyH_take (i := 14) (oi := { dst := some 29, op := Op.unOp UnOp.not 4 (Operand.tmp 28), type := 4, pos := "valid.go:45", after := #[{ on := 13, ground := Ground.data }, { on := 6, ground := Ground.guard }], guard := some (6, true) }) rfl (by kernel_rfl) (by kernel_rfl) (by kernel_rfl) (fun _ _ _ h => h) (Or.inr ⟨by rfl, rfl⟩) (by assumption) ?_
          try simp only [Act.put, List.setIfInBounds_toArray, List.set_cons_zero, List.set_cons_succ]
          refine wpAnyH_take (i := 15) (oi := { dst := some 30, op := Op.pick (Operand.tmp 21) (Operand.tmp 29) (Operand.const (Value.bool false)), type := 4, pos := "valid.go:45", after := #[{ on := 6, ground := Ground.data }, { on := 14, ground := Ground.data }, { on := 3, ground := Ground.guard }], guard := some (3, false) }) rfl (by kernel_rfl) (by kernel_rfl) (by kernel_rfl) (fun _ _ _ h => h) (Or.inr ⟨by rfl, rfl⟩) (by assumption) ?_
          try simp only [Act.put, List.setIfInBounds_toArray, List.set_cons_zero, List.set_cons_succ]
          refine wpAnyH_take (i := 16) (oi := { dst := some 31, op := Op.pick (Operand.tmp 18) (Operand.const (Value.bool true)) (Operand.tmp 30), type := 4, pos := "valid.go:45", after := #[{ on := 3, ground := Ground.data }, { on := 15, ground := Ground.data }], guard := none }) (v := ?va16) rfl (by kernel_rfl) (by kernel_rfl) (by kernel_rfl) (fun _ _ _ h => h) (Or.inl ⟨by rfl, ?hya16⟩) (by assumption) ?resta16
          case hya16 => (intro w hSw; (try dsimp only at hSw); go_simp; (try with_reducible rfl))
          try simp only [Act.put, List.setIfInBounds_toArray, List.set_cons_zero, List.set_cons_succ]
          refine wpAnyH_done (by kernel_rfl) ?_ _
          have BF := Lib.hid (BW.out.trans (hHeld1.1.mono BW.out.size))
          clear hHeld1
          go_wp2_with fail
          go_ret
          exact ⟨rfl, BF.out⟩
        · rcases Nat.eq_zero_or_pos j with rfl | hj0
          · have FN := Lib.hid (show fitI ks (0 + 1) = true from by rw [HST.out]; rfl)
            clear y0 y1 STOP HST b0 b1
            refine wp_region_held_drew (S := (fun w' => Below w1.heap.size w1 w' ∧ w'.cell? ⟨p, 0, none⟩ = some (.int .i64 k1) ∧ w'.cell? ⟨p, 1, none⟩ = some (.string k2))) (by kernel_rfl) TD.out (fun hHeld0 => ?_)
            refine wpAnyH_take (i := 0) (oi := { dst := some 15, op := Op.load 27 (Operand.tmp 4), type := 27, pos := "valid.go:45", after := #[], guard := none }) (v := ?vb0) rfl (by kernel_rfl) (by kernel_rfl) (by kernel_rfl) (fun _ _ _ h => h) (Or.inl ⟨by rfl, ?hyb0⟩) (by assumption) ?restb0
            case hyb0 => (intro w hSw; (try dsimp only at hSw); go_simp; (try with_reducible rfl))
            try simp only [Act.put, List.setIfInBounds_toArray, List.set_cons_zero, List.set_cons_succ]
            refine wpAnyH_ready (rs := [1]) (by kernel_rfl) (by simp) ?_
            refine AllReadyH.cons (o := { dst := some 16, op := Op.call { callee := Callee.value (Operand.func 82), args := #[Operand.tmp 15], argTypes := #[27] }, type := 4, pos := "valid.go:45", after := #[{ on := 0, ground := Ground.data }], guard := none }) rfl (fun K hK => ?_) AllReadyH.nil
            go_simp
            go_at_call 82
            refine (C1.out _).mono ?_
            rintro e' w2 ⟨rfl, hb⟩
            go_wp2_with fail
            refine hK.out _ _ ?_ (fun hHeld1 => ?_)
            · exact vi_carry hHeld0 hb
            clear hK K hHeld0 hb
            try simp only [Act.put, List.setIfInBounds_toArray, List.set_cons_zero, List.set_cons_succ]
            refine wpAnyH_take (i := 2) (oi := { dst := some 17, op := Op.unOp UnOp.not 4 (Operand.tmp 16), type := 4, pos := "valid.go:45", after := #[{ on := 1, ground := Ground.data }], guard := none }) (v := ?vb2) rfl (by kernel_rfl) (by kernel_rfl) (by kernel_rfl) (fun _ _ _ h => h) (Or.inl ⟨by rfl, ?hyb2⟩) (by assumption) ?restb2
            case hyb2 => (intro w hSw; (try dsimp only at hSw); go_simp; (try with_reducible rfl))
            try simp only [Act.put, List.setIfInBounds_toArray, List.set_cons_zero, List.set_cons_succ]
            refine wpAnyH_take (i := 3) (oi := { dst := some 18, op := Op.move (Operand.tmp 17), type := 4, pos := "valid.go:45", after := #[{ on := 2, ground := Ground.data }, { on := 1, ground := Ground.chain }], guard := none }) (v := ?vb3) rfl (by kernel_rfl) (by kernel_rfl) (by kernel_rfl) (fun _ _ _ h => h) (Or.inl ⟨by rfl, ?hyb3⟩) (by assumption) ?restb3
            case hyb3 => (intro w hSw; (try dsimp only at hSw); go_simp; (try with_reducible rfl))
            try simp only [Act.put, List.setIfInBounds_toArray, List.set_cons_zero, List.set_cons_succ]
            refine wpAnyH_take (i := 4) (oi := { dst := some 19, op := Op.move (Operand.tmp 3), type := 3, pos := "valid.go:45", after := #[{ on := 3, ground := Ground.guard }], guard := some (3, false) }) (v := ?vb4) rfl (by kernel_rfl) (by kernel_rfl) (by kernel_rfl) (fun _ _ _ h => h) (Or.inl ⟨by rfl, ?hyb4⟩) (by assumption) ?restb4
            case hyb4 => (intro w hSw; (try dsimp only at hSw); go_simp; (try with_reducible rfl))
            try simp only [Act.put, List.setIfInBounds_toArray, List.set_cons_zero, List.set_cons_succ]
            refine wpAnyH_take (i := 5) (oi := { dst := some 20, op := Op.binOp BinOp.gtr 3 (Operand.tmp 19) (Operand.const (Value.int IntKind.i64 0)) 3, type := 4, pos := "valid.go:45", after := #[{ on := 4, ground := Ground.data }, { on := 3, ground := Ground.guard }], guard := some (3, false) }) (v := ?vb5) rfl (by kernel_rfl) (by kernel_rfl) (by kernel_rfl) (fun _ _ _ h => h) (Or.inl ⟨by rfl, ?hyb5⟩) (by assumption) ?restb5
            case hyb5 => (intro w hSw; (try dsimp only at hSw); go_simp; (try with_reducible rfl))
            try simp only [Act.put, List.setIfInBounds_toArray, List.set_cons_zero, List.set_cons_succ]
            refine wpAnyH_take (i := 6) (oi := { dst := some 21, op := Op.move (Operand.tmp 20), type := 4, pos := "valid.go:45", after := #[{ on := 5, ground := Ground.data }, { on := 3, ground := Ground.chain }, { on := 3, ground := Ground.guard }], guard := some (3, false) }) (v := ?vb6) rfl (by kernel_rfl) (by kernel_rfl) (by kernel_rfl) (fun _ _ _ h => h) (Or.inl ⟨by rfl, ?hyb6⟩) (by assumption) ?restb6
            case hyb6 => (intro w hSw; (try dsimp only at hSw); go_simp; (try with_reducible rfl))
            try simp only [Act.put, List.setIfInBounds_toArray, List.set_cons_zero, List.set_cons_succ]
            refine wpAnyH_take (i := 7) (oi := { dst := some 22, op := Op.move (Operand.tmp 0), type := 30, pos := "valid.go:45", after := #[{ on := 6, ground := Ground.guard }], guard := some (6, true) }) rfl (by kernel_rfl) (by kernel_rfl) (by kernel_rfl) (fun _ _ _ h => h) (Or.inr ⟨by rfl, rfl⟩) (by assumption) ?_
            try simp only [Act.put, List.setIfInBounds_toArray, List.set_cons_zero, List.set_cons_succ]
            refine wpAnyH_take (i := 8) (oi := { dst := some 23, op := Op.move (Operand.tmp 3), type := 3, pos := "valid.go:45", after := #[{ on := 6, ground := Ground.guard }], guard := some (6, true) }) rfl (by kernel_rfl) (by kernel_rfl) (by kernel_rfl) (fun _ _ _ h => h) (Or.inr ⟨by rfl, rfl⟩) (by assumption) ?_
            try simp only [Act.put, List.setIfInBounds_toArray, List.set_cons_zero, List.set_cons_succ]
            refine wpAnyH_take (i := 9) (oi := { dst := some 24, op := Op.binOp BinOp.sub 3 (Operand.tmp 23) (Operand.const (Value.int IntKind.i64 1)) 3, type := 3, pos := "valid.go:45", after := #[{ on := 8, ground := Ground.data }, { on := 6, ground := Ground.guard }], guard := some (6, true) }) rfl (by kernel_rfl) (by kernel_rfl) (by kernel_rfl) (fun _ _ _ h => h) (Or.inr ⟨by rfl, rfl⟩) (by assumption) ?_
            try simp only [Act.put, List.setIfInBounds_toArray, List.set_cons_zero, List.set_cons_succ]
            refine wpAnyH_take (i := 10) (oi := { dst := some 25, op := Op.indexAddr 30 (Operand.tmp 22) (Operand.tmp 24), type := 0, pos := "valid.go:45", after := #[{ on := 7, ground := Ground.data }, { on := 9, ground := Ground.data }, { on := 6, ground := Ground.guard }], guard := some (6, true) }) rfl (by kernel_rfl) (by kernel_rfl) (by kernel_rfl) (fun _ _ _ h => h) (Or.inr ⟨by rfl, rfl⟩) (by assumption) ?_
            try simp only [Act.put, List.setIfInBounds_toArray, List.set_cons_zero, List.set_cons_succ]
            refine wpAnyH_take (i := 11) (oi := { dst := some 26, op := Op.load 27 (Operand.tmp 25), type := 27, pos := "valid.go:45", after := #[{ on := 10, ground := Ground.data }, { on := 6, ground := Ground.guard }], guard := some (6, true) }) rfl (by kernel_rfl) (by kernel_rfl) (by kernel_rfl) (fun _ _ _ h => h) (Or.inr ⟨by rfl, rfl⟩) (by assumption) ?_
            try simp only [Act.put, List.setIfInBounds_toArray, List.set_cons_zero, List.set_cons_succ]
            refine wpAnyH_take (i := 12) (oi := { dst := some 27, op := Op.load 27 (Operand.tmp 4), type := 27, pos := "valid.go:45", after := #[{ on := 6, ground := Ground.guard }], guard := some (6, true) }) rfl (by kernel_rfl) (by kernel_rfl) (by kernel_rfl) (fun _ _ _ h => h) (Or.inr ⟨by rfl, rfl⟩) (by assumption) ?_
            try simp only [Act.put, List.setIfInBounds_toArray, List.set_cons_zero, List.set_cons_succ]
            refine wpAnyH_take (i := 13) (oi := { dst := some 28, op := Op.call { callee := Callee.value (Operand.func 83), args := #[Operand.tmp 26, Operand.tmp 27], argTypes := #[27, 27] }, type := 4, pos := "valid.go:45", after := #[{ on := 11, ground := Ground.data }, { on := 12, ground := Ground.data }, { on := 6, ground := Ground.chain }, { on := 6, ground := Ground.guard }], guard := some (6, true) }) rfl (by kernel_rfl) (by kernel_rfl) (by kernel_rfl) (fun _ _ _ h => h) (Or.inr ⟨by rfl, rfl⟩) (by assumption) ?_
            try simp only [Act.put, List.setIfInBounds_toArray, List.set_cons_zero, List.set_cons_succ]
            refine wpAnyH_take (i := 14) (oi := { dst := some 29, op := Op.unOp UnOp.not 4 (Operand.tmp 28), type := 4, pos := "valid.go:45", after := #[{ on := 13, ground := Ground.data }, { on := 6, ground := Ground.guard }], guard := some (6, true) }) rfl (by kernel_rfl) (by kernel_rfl) (by kernel_rfl) (fun _ _ _ h => h) (Or.inr ⟨by rfl, rfl⟩) (by assumption) ?_
            try simp only [Act.put, List.setIfInBounds_toArray, List.set_cons_zero, List.set_cons_succ]
            refine wpAnyH_take (i := 15) (oi := { dst := some 30, op := Op.pick (Operand.tmp 21) (Operand.tmp 29) (Operand.const (Value.bool false)), type := 4, pos := "valid.go:45", after := #[{ on := 6, ground := Ground.data }, { on := 14, ground := Ground.data }, { on := 3, ground := Ground.guard }], guard := some (3, false) }) (v := ?vb15) rfl (by kernel_rfl) (by kernel_rfl) (by kernel_rfl) (fun _ _ _ h => h) (Or.inl ⟨by rfl, ?hyb15⟩) (by assumption) ?restb15
            case hyb15 => (intro w hSw; (try dsimp only at hSw); go_simp; (try with_reducible rfl))
            try simp only [Act.put, List.setIfInBounds_toArray, List.set_cons_zero, List.set_cons_succ]
            refine wpAnyH_take (i := 16) (oi := { dst := some 31, op := Op.pick (Operand.tmp 18) (Operand.const (Value.bool true)) (Operand.tmp 30), type := 4, pos := "valid.go:45", after := #[{ on := 3, ground := Ground.data }, { on := 15, ground := Ground.data }], guard := none }) (v := ?vb16) rfl (by kernel_rfl) (by kernel_rfl) (by kernel_rfl) (fun _ _ _ h => h) (Or.inl ⟨by rfl, ?hyb16⟩) (by assumption) ?restb16
            case hyb16 => (intro w hSw; (try dsimp only at hSw); go_simp; (try with_reducible rfl))
            try simp only [Act.put, List.setIfInBounds_toArray, List.set_cons_zero, List.set_cons_succ]
            refine wpAnyH_done (by kernel_rfl) ?_ _
            have BF := Lib.hid (BW.out.trans (hHeld1.1.mono BW.out.size))
            clear hHeld1
            go_wp2_with fail
            go_roundw
            case rel => exact ⟨1, by omega, by go_num, FN, BF⟩
            case measure => simp [intOf] <;> omega
          · obtain ⟨j', hj'⟩ : ∃ j', j - 1 = j' := ⟨_, rfl⟩
            obtain ⟨z0, z1⟩ := hcc2.out j' (by omega)
            obtain ⟨kp, hkp⟩ : ∃ kp, ks.getD j' k0 = kp := ⟨_, rfl⟩
            rw [hkp] at z0 z1
            obtain ⟨p1, p2⟩ := kp
            simp only at z0 z1
            obtain ⟨zl, hzl⟩ : ∃ z, lessK (p1, p2) (k1, k2) = z := ⟨_, rfl⟩
            have CL := Lib.hid (fun w => iless_lit (p1, p2) (k1, k2) zl w hzl)
            have HST2 := Lib.hid (show fitI ks (j + 1) = zl from by rw [HST.out, hj', hkp, hzl, decide_eq_false (by omega)]; rfl)
            have v0 := (BW.out.cell (p := ⟨qb, qo + j' * 2, none⟩) (lt_of_cell z0)).trans z0
            have v1 := (BW.out.cell (p := ⟨qb, qo + j' * 2 + 1, none⟩) (lt_of_cell z1)).trans z1
            have TE := Lib.hid (show ((Below w1.heap.size w1 w1.drew ∧ w1.drew.cell? ⟨p, 0, none⟩ = some (.int .i64 k1) ∧ w1.drew.cell? ⟨p, 1, none⟩ = some (.string k2)) ∧ w1.drew.cell? ⟨qb, qo + j' * 2, none⟩ = some (.int .i64 p1) ∧ w1.drew.cell? ⟨qb, qo + j' * 2 + 1, none⟩ = some (.string p2)) from ⟨TD.out, v0, v1⟩)
            have e1 : (j : Int) - 1 = (j' : Int) := by omega
            have w1e : IntKind.i64.wrap (j' : Int) = (j' : Int) := IntWalk.i64_in _ (by omega)
            have g1 : decide ((j : Int) > 0) = true := decide_eq_true (by omega)
            have g2 : decide (0 < j) = true := decide_eq_true (by omega)
            have i1 : (0 : Int) ≤ (j' : Int) := by omega
            have i2 : (j' : Int) < (n : Int) := by omega
            have i3 : j' < n := by omega
            have i4 : (0 : Int) ≤ (j : Int) - 1 := by omega
            have i5 : (j : Int) - 1 < (n : Int) := by omega
            clear y0 y1 z0 z1 hkp hzl v0 v1 HST hj0 b0 b1 hj'
            refine wp_region_held_drew (S := (fun w' => (Below w1.heap.size w1 w' ∧ w'.cell? ⟨p, 0, none⟩ = some (.int .i64 k1) ∧ w'.cell? ⟨p, 1, none⟩ = some (.string k2)) ∧ w'.cell? ⟨qb, qo + j' * 2, none⟩ = some (.int .i64 p1) ∧ w'.cell? ⟨qb, qo + j' * 2 + 1, none⟩ = some (.string p2))) (by kernel_rfl) TE.out (fun hHeld0 => ?_)
            refine wpAnyH_take (i := 0) (oi := { dst := some 15, op := Op.load 27 (Operand.tmp 4), type := 27, pos := "valid.go:45", after := #[], guard := none }) (v := ?vc0) rfl (by kernel_rfl) (by kernel_rfl) (by kernel_rfl) (fun _ _ _ h => h) (Or.inl ⟨by rfl, ?hyc0⟩) (by assumption) ?restc0
            case hyc0 => (intro w hSw; (try dsimp only at hSw); go_simp; (try with_reducible rfl))
            try simp only [Act.put, List.setIfInBounds_toArray, List.set_cons_zero, List.set_cons_succ]
            refine wpAnyH_ready (rs := [1]) (by kernel_rfl) (by simp) ?_
            refine AllReadyH.cons (o := { dst := some 16, op := Op.call { callee := Callee.value (Operand.func 82), args := #[Operand.tmp 15], argTypes := #[27] }, type := 4, pos := "valid.go:45", after := #[{ on := 0, ground := Ground.data }], guard := none }) rfl (fun K hK => ?_) AllReadyH.nil
            go_simp
            go_at_call 82
            refine (C1.out _).mono ?_
            rintro e' w2 ⟨rfl, hb⟩
            go_wp2_with fail
            refine hK.out _ _ ?_ (fun hHeld1 => ?_)
            · exact vi_carry2 hHeld0 hb
            clear hK K hHeld0 hb
            try simp only [Act.put, List.setIfInBounds_toArray, List.set_cons_zero, List.set_cons_succ]
            refine wpAnyH_take (i := 2) (oi := { dst := some 17, op := Op.unOp UnOp.not 4 (Operand.tmp 16), type := 4, pos := "valid.go:45", after := #[{ on := 1, ground := Ground.data }], guard := none }) (v := ?vc2) rfl (by kernel_rfl) (by kernel_rfl) (by kernel_rfl) (fun _ _ _ h => h) (Or.inl ⟨by rfl, ?hyc2⟩) (by assumption) ?restc2
            case hyc2 => (intro w hSw; (try dsimp only at hSw); go_simp; (try with_reducible rfl))
            try simp only [Act.put, List.setIfInBounds_toArray, List.set_cons_zero, List.set_cons_succ]
            refine wpAnyH_take (i := 3) (oi := { dst := some 18, op := Op.move (Operand.tmp 17), type := 4, pos := "valid.go:45", after := #[{ on := 2, ground := Ground.data }, { on := 1, ground := Ground.chain }], guard := none }) (v := ?vc3) rfl (by kernel_rfl) (by kernel_rfl) (by kernel_rfl) (fun _ _ _ h => h) (Or.inl ⟨by rfl, ?hyc3⟩) (by assumption) ?restc3
            case hyc3 => (intro w hSw; (try dsimp only at hSw); go_simp; (try with_reducible rfl))
            try simp only [Act.put, List.setIfInBounds_toArray, List.set_cons_zero, List.set_cons_succ]
            refine wpAnyH_take (i := 4) (oi := { dst := some 19, op := Op.move (Operand.tmp 3), type := 3, pos := "valid.go:45", after := #[{ on := 3, ground := Ground.guard }], guard := some (3, false) }) (v := ?vc4) rfl (by kernel_rfl) (by kernel_rfl) (by kernel_rfl) (fun _ _ _ h => h) (Or.inl ⟨by rfl, ?hyc4⟩) (by assumption) ?restc4
            case hyc4 => (intro w hSw; (try dsimp only at hSw); go_simp; (try with_reducible rfl))
            try simp only [Act.put, List.setIfInBounds_toArray, List.set_cons_zero, List.set_cons_succ]
            refine wpAnyH_take (i := 5) (oi := { dst := some 20, op := Op.binOp BinOp.gtr 3 (Operand.tmp 19) (Operand.const (Value.int IntKind.i64 0)) 3, type := 4, pos := "valid.go:45", after := #[{ on := 4, ground := Ground.data }, { on := 3, ground := Ground.guard }], guard := some (3, false) }) (v := ?vc5) rfl (by kernel_rfl) (by kernel_rfl) (by kernel_rfl) (fun _ _ _ h => h) (Or.inl ⟨by rfl, ?hyc5⟩) (by assumption) ?restc5
            case hyc5 => (intro w hSw; (try dsimp only at hSw); go_simp; (try with_reducible rfl))
            try simp only [Act.put, List.setIfInBounds_toArray, List.set_cons_zero, List.set_cons_succ]
            refine wpAnyH_take (i := 6) (oi := { dst := some 21, op := Op.move (Operand.tmp 20), type := 4, pos := "valid.go:45", after := #[{ on := 5, ground := Ground.data }, { on := 3, ground := Ground.chain }, { on := 3, ground := Ground.guard }], guard := some (3, false) }) (v := ?vc6) rfl (by kernel_rfl) (by kernel_rfl) (by kernel_rfl) (fun _ _ _ h => h) (Or.inl ⟨by rfl, ?hyc6⟩) (by assumption) ?restc6
            case hyc6 => (intro w hSw; (try dsimp only at hSw); go_simp; (try with_reducible rfl))
            try simp only [Act.put, List.setIfInBounds_toArray, List.set_cons_zero, List.set_cons_succ]
            refine wpAnyH_take (i := 7) (oi := { dst := some 22, op := Op.move (Operand.tmp 0), type := 30, pos := "valid.go:45", after := #[{ on := 6, ground := Ground.guard }], guard := some (6, true) }) (v := ?vc7) rfl (by kernel_rfl) (by kernel_rfl) (by kernel_rfl) (fun _ _ _ h => h) (Or.inl ⟨by rfl, ?hyc7⟩) (by assumption) ?restc7
            case hyc7 => (intro w hSw; (try dsimp only at hSw); go_simp; (try with_reducible rfl))
            try simp only [Act.put, List.setIfInBounds_toArray, List.set_cons_zero, List.set_cons_succ]
            refine wpAnyH_take (i := 8) (oi := { dst := some 23, op := Op.move (Operand.tmp 3), type := 3, pos := "valid.go:45", after := #[{ on := 6, ground := Ground.guard }], guard := some (6, true) }) (v := ?vc8) rfl (by kernel_rfl) (by kernel_rfl) (by kernel_rfl) (fun _ _ _ h => h) (Or.inl ⟨by rfl, ?hyc8⟩) (by assumption) ?restc8
            case hyc8 => (intro w hSw; (try dsimp only at hSw); go_simp; (try with_reducible rfl))
            try simp only [Act.put, List.setIfInBounds_toArray, List.set_cons_zero, List.set_cons_succ]
            refine wpAnyH_take (i := 9) (oi := { dst := some 24, op := Op.binOp BinOp.sub 3 (Operand.tmp 23) (Operand.const (Value.int IntKind.i64 1)) 3, type := 3, pos := "valid.go:45", after := #[{ on := 8, ground := Ground.data }, { on := 6, ground := Ground.guard }], guard := some (6, true) }) (v := ?vc9) rfl (by kernel_rfl) (by kernel_rfl) (by kernel_rfl) (fun _ _ _ h => h) (Or.inl ⟨by rfl, ?hyc9⟩) (by assumption) ?restc9
            case hyc9 => (intro w hSw; (try dsimp only at hSw); go_simp; (try with_reducible rfl))
            try simp only [Act.put, List.setIfInBounds_toArray, List.set_cons_zero, List.set_cons_succ]
            refine wpAnyH_take (i := 10) (oi := { dst := some 25, op := Op.indexAddr 30 (Operand.tmp 22) (Operand.tmp 24), type := 0, pos := "valid.go:45", after := #[{ on := 7, ground := Ground.data }, { on := 9, ground := Ground.data }, { on := 6, ground := Ground.guard }], guard := some (6, true) }) (v := ?vc10) rfl (by kernel_rfl) (by kernel_rfl) (by kernel_rfl) (fun _ _ _ h => h) (Or.inl ⟨by rfl, ?hyc10⟩) (by assumption) ?restc10
            case hyc10 => (intro w hSw; (try dsimp only at hSw); go_simp; (try with_reducible rfl))
            try simp only [Act.put, List.setIfInBounds_toArray, List.set_cons_zero, List.set_cons_succ]
            refine wpAnyH_take (i := 11) (oi := { dst := some 26, op := Op.load 27 (Operand.tmp 25), type := 27, pos := "valid.go:45", after := #[{ on := 10, ground := Ground.data }, { on := 6, ground := Ground.guard }], guard := some (6, true) }) (v := ?vc11) rfl (by kernel_rfl) (by kernel_rfl) (by kernel_rfl) (fun _ _ _ h => h) (Or.inl ⟨by rfl, ?hyc11⟩) (by assumption) ?restc11
            case hyc11 => (intro w hSw; (try dsimp only at hSw); go_simp; (try with_reducible rfl))
            try simp only [Act.put, List.setIfInBounds_toArray, List.set_cons_zero, List.set_cons_succ]
            refine wpAnyH_take (i := 12) (oi := { dst := some 27, op := Op.load 27 (Operand.tmp 4), type := 27, pos := "valid.go:45", after := #[{ on := 6, ground := Ground.guard }], guard := some (6, true) }) (v := ?vc12) rfl (by kernel_rfl) (by kernel_rfl) (by kernel_rfl) (fun _ _ _ h => h) (Or.inl ⟨by rfl, ?hyc12⟩) (by assumption) ?restc12
            case hyc12 => (intro w hSw; (try dsimp only at hSw); go_simp; (try with_reducible rfl))
            try simp only [Act.put, List.setIfInBounds_toArray, List.set_cons_zero, List.set_cons_succ]
            refine wpAnyH_ready (rs := [13]) (by kernel_rfl) (by simp) ?_
            refine AllReadyH.cons (o := { dst := some 28, op := Op.call { callee := Callee.value (Operand.func 83), args := #[Operand.tmp 26, Operand.tmp 27], argTypes := #[27, 27] }, type := 4, pos := "valid.go:45", after := #[{ on := 11, ground := Ground.data }, { on := 12, ground := Ground.data }, { on := 6, ground := Ground.chain }, { on := 6, ground := Ground.guard }], guard := some (6, true) }) rfl (fun K hK => ?_) AllReadyH.nil
            go_simp
            go_at_call 83
            refine (CL.out _).mono ?_
            rintro e' w3 ⟨rfl, hb⟩
            go_wp2_with fail
            refine hK.out _ _ ?_ (fun hHeld2 => ?_)
            · exact vi_carry2 hHeld1 hb
            clear hK K hHeld1 hb
            try simp only [Act.put, List.setIfInBounds_toArray, List.set_cons_zero, List.set_cons_succ]
            refine wpAnyH_take (i := 14) (oi := { dst := some 29, op := Op.unOp UnOp.not 4 (Operand.tmp 28), type := 4, pos := "valid.go:45", after := #[{ on := 13, ground := Ground.data }, { on := 6, ground := Ground.guard }], guard := some (6, true) }) (v := ?vc14) rfl (by kernel_rfl) (by kernel_rfl) (by kernel_rfl) (fun _ _ _ h => h) (Or.inl ⟨by rfl, ?hyc14⟩) (by assumption) ?restc14
            case hyc14 => (intro w hSw; (try dsimp only at hSw); go_simp; (try with_reducible rfl))
            try simp only [Act.put, List.setIfInBounds_toArray, List.set_cons_zero, List.set_cons_succ]
            refine wpAnyH_take (i := 15) (oi := { dst := some 30, op := Op.pick (Operand.tmp 21) (Operand.tmp 29) (Operand.const (Value.bool false)), type := 4, pos := "valid.go:45", after := #[{ on := 6, ground := Ground.data }, { on := 14, ground := Ground.data }, { on := 3, ground := Ground.guard }], guard := some (3, false) }) (v := ?vc15) rfl (by kernel_rfl) (by kernel_rfl) (by kernel_rfl) (fun _ _ _ h => h) (Or.inl ⟨by rfl, ?hyc15⟩) (by assumption) ?restc15
            case hyc15 => (intro w hSw; (try dsimp only at hSw); go_simp; (try with_reducible rfl))
            try simp only [Act.put, List.setIfInBounds_toArray, List.set_cons_zero, List.set_cons_succ]
            refine wpAnyH_take (i := 16) (oi := { dst := some 31, op := Op.pick (Operand.tmp 18) (Operand.const (Value.bool true)) (Operand.tmp 30), type := 4, pos := "valid.go:45", after := #[{ on := 3, ground := Ground.data }, { on := 15, ground := Ground.data }], guard := none }) (v := ?vc16) rfl (by kernel_rfl) (by kernel_rfl) (by kernel_rfl) (fun _ _ _ h => h) (Or.inl ⟨by rfl, ?hyc16⟩) (by assumption) ?restc16
            case hyc16 => (intro w hSw; (try dsimp only at hSw); go_simp; (try with_reducible rfl))
            try simp only [Act.put, List.setIfInBounds_toArray, List.set_cons_zero, List.set_cons_succ]
            refine wpAnyH_done (by kernel_rfl) ?_ _
            have BF := Lib.hid (BW.out.trans (hHeld2.1.1.mono BW.out.size))
            clear hHeld2
            cases zl
            · obtain rfl : c = false := STOP.out HST2.out
              go_wp2_with fail
              go_ret
              exact ⟨rfl, BF.out⟩
            · go_wp2_with fail
              go_roundw
              case rel => exact ⟨j + 1, by omega, by go_num, HST2, BF⟩
              case measure => simp [intOf] <;> omega
      · obtain rfl : j = n := by omega
        obtain rfl : c = true := by rw [← HC.out]; exact hF.out
        go_wp2_with fail
        go_ret
        exact ⟨rfl, hB.out⟩
  · rw [decide_eq_false h5, Bool.false_and] at h
    subst h
    have d1 : decide ((n : Int) > 5) = true := decide_eq_true (by omega)
    have d2 : decide (5 < n) = true := decide_eq_true (by omega)
    go_enter Try.func62, Try.ntmps62
    go_wp2_with fail
    go_ret
    exact ⟨rfl, Below.refl _ _⟩
end Go.Proofs.Ythboiklcjpnhbaa
