/- the law of what is made of any texts -/
import Derived.Test.YtieenopbkkbecaaWt5
import Derived.Deep.RegionHeld3
import Derived.Test.YtieenopbkkbecaaOpT
namespace Go.Proofs.Ytieenopbkkbecaa
open Go.RowKit
set_option linter.unusedVariables false
theorem mem_words {ts : List Tx} {t : Tx} : t ∈ canonS (wordsOf ts) ↔ t ∈ ts ∧ wordP t := by rw [mem_canon]; simp [wordsOf]
theorem twoT_carry {w0 w w' : World} {b p q : Nat} {x y : Value} (h : Below w0.heap.size w0 w ∧ w.cell? ⟨b, p, none⟩ = some x ∧ w.cell? ⟨b, q, none⟩ = some y) (hb : Below w.heap.size w w') : Below w0.heap.size w0 w' ∧ w'.cell? ⟨b, p, none⟩ = some x ∧ w'.cell? ⟨b, q, none⟩ = some y :=
  ⟨h.1.trans (hb.mono h.1.size), by rw [hb.cell (p := ⟨b, p, none⟩) (lt_of_cell h.2.1)]; exact h.2.1, by rw [hb.cell (p := ⟨b, q, none⟩) (lt_of_cell h.2.2)]; exact h.2.2⟩
set_option maxHeartbeats 3200000 in
theorem listSorted_any (a : Option Addr) (na ca : Nat) (xs : List Tx) (w : World) (ha : Lst w a na ca xs) (biga : na ≤ 9223372036854775807) (sa : ∀ t ∈ xs, t.size ≤ 9223372036854775807) :
    Calls Try.prog 5 #[.slice a na ca] w fun e w' => e = .returned (.bool true) ∧ Below w.heap.size w w' := by
  have HX := Lib.hid ha; have Sxs := Lib.hid sa
  have lxs := ha.1.len
  clear ha sa
  by_cases q0 : greatB xs = true
  case pos =>
    have Gxs := Lib.hid q0
    have B0 := Lib.hid (Below.refl w.heap.size w)
    go_enter Try.func5, Try.ntmps5
    go_wp2_with fail
    refine (great_lit a na ca xs _ _ HX.out.1 (by omega) Sxs.out Gxs.out).mono ?_
    rintro e w1 ⟨rfl, hb1⟩
    replace HX := Lib.hid (HX.out.below hb1)
    have B1 := Lib.hid (B0.out.trans (hb1.mono B0.out.size))
    clear hb1 B0
    go_wp2_with fail
    refine (awakeL_any _).mono ?_
    rintro e w2 ⟨rfl, hb2⟩
    replace HX := Lib.hid (HX.out.below hb2)
    have B2 := Lib.hid (B1.out.trans (hb2.mono B1.out.size))
    clear hb2 B1
    go_wp2_with fail
    go_ret
    exact ⟨rfl, B2.out⟩
  have Gxs := Lib.hid ((Bool.not_eq_true _).mp q0)
  have Nxs := (great_no_iff.1 Gxs.out).1
  have B0 := Lib.hid (Below.refl w.heap.size w)
  obtain ⟨Z, e1⟩ : ∃ M, canonS (wordsOf xs) = M := ⟨_, rfl⟩
  obtain ⟨k, ek⟩ : ∃ k, Z.length = k := ⟨_, rfl⟩
  have SZ : Hid (SortedS Z) := Lib.hid (by rw [← e1]; exact canon_sorted _)
  have ZW : Hid (∀ t ∈ Z, wordP t) := Lib.hid (fun t ht => by rw [← e1] at ht; exact (mem_words.1 ht).2)
  have ZS : Hid (∀ t ∈ Z, t.size ≤ 9223372036854775807) := Lib.hid (fun t ht => by rw [← e1] at ht; exact Sxs.out t (mem_words.1 ht).1)
  have kn : k ≤ na := by have h1 := canon_len (wordsOf xs); have h2 := wordsOf_len xs; rw [e1, ek] at h1; omega
  have KN := Lib.hid kn
  have E1 := Lib.hid e1; have EK := Lib.hid ek
  clear e1 ek
  go_enter Try.func5, Try.ntmps5
  go_wp2_with fail
  refine (great_lit a na ca xs _ _ HX.out.1 (by omega) Sxs.out Gxs.out).mono ?_
  rintro e w1 ⟨rfl, hb1⟩
  replace HX := Lib.hid (HX.out.below hb1)
  have B1 := Lib.hid (B0.out.trans (hb1.mono B0.out.size))
  clear hb1 B0
  go_wp2_with fail
  refine (sorted_lst a na ca xs Z k _ HX.out (by omega) Sxs.out E1.out EK.out).mono ?_
  rintro e w2 ⟨a2, c2, rfl, o2, hb2⟩
  replace HX := Lib.hid (HX.out.below hb2)
  have B2 := Lib.hid (B1.out.trans (hb2.mono B1.out.size))
  clear hb2 B1
  have K1 := Lib.hid (Lst.own o2)
  have O1 := Lib.hid o2
  clear o2
  go_wp2_with fail
  have BS := B2
  go_loopw [4] (fun iv wr => ∃ i : Nat, i ≤ k ∧ iv = .int .i64 i ∧ Hid (Below w2.heap.size w2 wr)) (fun iv _ => k - (intOf iv).toNat)
  case atStart => exact ⟨0, by omega, rfl, Lib.hid (Below.refl _ _)⟩
  case round =>
    obtain ⟨i, hi, rfl, hB⟩ := hrel
    by_cases hlt : i < k
    · have Kr := K1.out.below hB.out
      obtain ⟨b, o, rfl, hc⟩ := Kr.1.at (by omega)
      have e1 := hc i hlt
      have hmem := getD_memT Z i (by rw [EK.out]; exact hlt)
      have hsr := fun h0 : 0 < i => sorted_at SZ.out (show i - 1 < i by omega) (show i < Z.length by rw [EK.out]; exact hlt)
      have e0 := hc (i - 1) (by omega)
      obtain ⟨x, hx⟩ : ∃ x, Z.getD i ByteArray.empty = x := ⟨_, rfl⟩
      obtain ⟨y, hy⟩ : ∃ y, Z.getD (i - 1) ByteArray.empty = y := ⟨_, rfl⟩
      rw [hx] at e1 hmem hsr; rw [hy] at e0 hsr
      have HW := Lib.hid (fun w => @word_bool w x true (ZS.out x hmem) (decide_eq_true (ZW.out x hmem)))
      have bs := hB.out.size
      clear hx hy hmem hc
      by_cases h0 : 0 < i
      · obtain ⟨q, hq⟩ : ∃ q, q = i - 1 := ⟨_, rfl⟩
        rw [← hq] at e0
        have hs1 := hsr (by omega)
        obtain ⟨v, hv⟩ : ∃ v, cmpS y x = v := ⟨_, rfl⟩
        rw [hv] at hs1
        have HC := Lib.hid (fun w => compare_lit y x v hv w)
        clear hv hsr
        have hr : IntKind.i64.wrap ((i : Int) - 1) = (q : Int) := by rw [IntWalk.i64_in _ (by omega)]; omega
        have g5 : (0 : Int) ≤ (q : Int) := by omega
        have g6 : (0 : Int) ≤ (i : Int) := by omega
        have g1 : (q : Int) < (k : Int) := by omega
        have g2 : (i : Int) < (k : Int) := by omega
        have g3 : decide ((i : Int) > 0) = true := by rw [decide_eq_true_iff]; omega
        have g4 : decide (v ≥ 0) = false := by rw [decide_eq_false_iff_not]; omega
        have T := Lib.hid (show Below wr.heap.size wr wr ∧ wr.cell? ⟨b, o + i, none⟩ = some (.string x) ∧ wr.cell? ⟨b, o + q, none⟩ = some (.string y) from ⟨Below.refl _ _, e1, e0⟩)
        clear hq
        go_upto_region 7 with fail
        go_region_held3 (fun w' => Below wr.heap.size wr w' ∧ w'.cell? ⟨b, o + i, none⟩ = some (.string x) ∧ w'.cell? ⟨b, o + q, none⟩ = some (.string y))
          (first | assumption | exact twoT_carry T.out (below_drewN wr _) | exact twoT_carry T.out (Below.refl _ _).drew | exact twoT_carry (by assumption) (by assumption))
          (first | (go_at_call 26; refine (HW.out _).mono ?_; rintro e w' ⟨rfl, hb⟩) | (go_at_call 27; refine (HC.out _).mono ?_; rintro e w' ⟨rfl, rfl⟩))
        rename_i T5
        obtain ⟨hb5, -, -⟩ := T5
        go_wp2_with fail
        go_roundw
        case rel => exact ⟨i + 1, by omega, by go_num, Lib.hid (hB.out.trans (hb5.mono bs))⟩
        case measure => simp [intOf]; omega
      · obtain rfl : i = 0 := by omega
        have g2 : (0 : Int) < (k : Int) := by omega
        rw [Nat.add_zero] at e1
        have g3 : decide (((0 : Nat) : Int) > 0) = false := by simp
        clear hsr e0
        have T := Lib.hid (show Below wr.heap.size wr wr ∧ wr.cell? ⟨b, o, none⟩ = some (.string x) ∧ wr.cell? ⟨b, o, none⟩ = some (.string x) from ⟨Below.refl _ _, e1, e1⟩)
        have hS0 := twoT_carry T.out (Below.refl wr.heap.size wr).drew
        go_upto_region 7 with fail
        refine wp_region_held_drew (S := (fun w' => Below wr.heap.size wr w' ∧ w'.cell? ⟨b, o, none⟩ = some (.string x) ∧ w'.cell? ⟨b, o, none⟩ = some (.string x))) (by kernel_rfl) hS0 (fun hHeld => ?_)
        refine wpAnyH_take (i := 0) (oi := { dst := some 19, op := Op.move (Operand.tmp 3), type := 22, pos := "law.go:52", after := #[], guard := none }) (v := ?v0) rfl (by kernel_rfl) (by kernel_rfl) (by kernel_rfl) (fun _ _ _ h => h) (Or.inl ⟨by rfl, ?hy0⟩) (by assumption) ?rest0
        case hy0 => (intro w hSw; (try dsimp only at hSw); go_simp; (try with_reducible rfl))
        try simp only [Act.put, List.setIfInBounds_toArray, List.set_cons_zero, List.set_cons_succ]
        refine wpAnyH_take (i := 1) (oi := { dst := some 20, op := Op.move (Operand.tmp 4), type := 3, pos := "law.go:52", after := #[], guard := none }) (v := ?v1) rfl (by kernel_rfl) (by kernel_rfl) (by kernel_rfl) (fun _ _ _ h => h) (Or.inl ⟨by rfl, ?hy1⟩) (by assumption) ?rest1
        case hy1 => (intro w hSw; (try dsimp only at hSw); go_simp; (try with_reducible rfl))
        try simp only [Act.put, List.setIfInBounds_toArray, List.set_cons_zero, List.set_cons_succ]
        refine wpAnyH_take (i := 2) (oi := { dst := some 21, op := Op.indexAddr 22 (Operand.tmp 19) (Operand.tmp 20), type := 0, pos := "law.go:52", after := #[{ on := 0, ground := Ground.data }, { on := 1, ground := Ground.data }], guard := none }) (v := ?v2) rfl (by kernel_rfl) (by kernel_rfl) (by kernel_rfl) (fun _ _ _ h => h) (Or.inl ⟨by rfl, ?hy2⟩) (by assumption) ?rest2
        case hy2 => (intro w hSw; (try dsimp only at hSw); go_simp; (try with_reducible rfl))
        try simp only [Act.put, List.setIfInBounds_toArray, List.set_cons_zero, List.set_cons_succ]
        refine wpAnyH_take (i := 3) (oi := { dst := some 22, op := Op.load 9 (Operand.tmp 21), type := 9, pos := "law.go:52", after := #[{ on := 2, ground := Ground.data }], guard := none }) (v := ?v3) rfl (by kernel_rfl) (by kernel_rfl) (by kernel_rfl) (fun _ _ _ h => h) (Or.inl ⟨by rfl, ?hy3⟩) (by assumption) ?rest3
        case hy3 => (intro w hSw; (try dsimp only at hSw); go_simp; (try with_reducible rfl))
        try simp only [Act.put, List.setIfInBounds_toArray, List.set_cons_zero, List.set_cons_succ]
        refine wpAnyH_ready (rs := [4]) (by kernel_rfl) (by simp) ?_
        refine AllReadyH.cons (o := { dst := some 23, op := Op.call { callee := Callee.value (Operand.func 26), args := #[Operand.tmp 22], argTypes := #[9] }, type := 4, pos := "law.go:52", after := #[{ on := 3, ground := Ground.data }], guard := none }) rfl (fun K hK => ?_) AllReadyH.nil
        go_simp
        go_at_call 26
        refine (HW.out _).mono ?_
        rintro e w' ⟨rfl, hb⟩
        go_wp2_with fail
        refine hK.out _ _ ?_ (fun hHeld2 => ?_)
        · exact twoT_carry hHeld hb
        clear hK K hHeld
        try simp only [Act.put, List.setIfInBounds_toArray, List.set_cons_zero, List.set_cons_succ]
        refine wpAnyH_take (i := 5) (oi := { dst := some 24, op := Op.unOp UnOp.not 4 (Operand.tmp 23), type := 4, pos := "law.go:52", after := #[{ on := 4, ground := Ground.data }], guard := none }) (v := ?v5) rfl (by kernel_rfl) (by kernel_rfl) (by kernel_rfl) (fun _ _ _ h => h) (Or.inl ⟨by rfl, ?hy5⟩) (by assumption) ?rest5
        case hy5 => (intro w hSw; (try dsimp only at hSw); go_simp; (try with_reducible rfl))
        try simp only [Act.put, List.setIfInBounds_toArray, List.set_cons_zero, List.set_cons_succ]
        refine wpAnyH_take (i := 6) (oi := { dst := some 25, op := Op.move (Operand.tmp 24), type := 4, pos := "law.go:52", after := #[{ on := 5, ground := Ground.data }, { on := 4, ground := Ground.chain }], guard := none }) (v := ?v6) rfl (by kernel_rfl) (by kernel_rfl) (by kernel_rfl) (fun _ _ _ h => h) (Or.inl ⟨by rfl, ?hy6⟩) (by assumption) ?rest6
        case hy6 => (intro w hSw; (try dsimp only at hSw); go_simp; (try with_reducible rfl))
        try simp only [Act.put, List.setIfInBounds_toArray, List.set_cons_zero, List.set_cons_succ]
        refine wpAnyH_take (i := 7) (oi := { dst := some 26, op := Op.move (Operand.tmp 4), type := 3, pos := "law.go:52", after := #[{ on := 6, ground := Ground.guard }], guard := some (6, false) }) (v := ?v7) rfl (by kernel_rfl) (by kernel_rfl) (by kernel_rfl) (fun _ _ _ h => h) (Or.inl ⟨by rfl, ?hy7⟩) (by assumption) ?rest7
        case hy7 => (intro w hSw; (try dsimp only at hSw); go_simp; (try with_reducible rfl))
        try simp only [Act.put, List.setIfInBounds_toArray, List.set_cons_zero, List.set_cons_succ]
        refine wpAnyH_take (i := 8) (oi := { dst := some 27, op := Op.binOp BinOp.gtr 3 (Operand.tmp 26) (Operand.const (Value.int IntKind.i64 0)) 3, type := 4, pos := "law.go:52", after := #[{ on := 7, ground := Ground.data }, { on := 6, ground := Ground.guard }], guard := some (6, false) }) (v := ?v8) rfl (by kernel_rfl) (by kernel_rfl) (by kernel_rfl) (fun _ _ _ h => h) (Or.inl ⟨by rfl, ?hy8⟩) (by assumption) ?rest8
        case hy8 => (intro w hSw; (try dsimp only at hSw); go_simp; (try with_reducible rfl))
        try simp only [Act.put, List.setIfInBounds_toArray, List.set_cons_zero, List.set_cons_succ]
        refine wpAnyH_take (i := 9) (oi := { dst := some 28, op := Op.move (Operand.tmp 27), type := 4, pos := "law.go:52", after := #[{ on := 8, ground := Ground.data }, { on := 6, ground := Ground.chain }, { on := 6, ground := Ground.guard }], guard := some (6, false) }) (v := ?v9) rfl (by kernel_rfl) (by kernel_rfl) (by kernel_rfl) (fun _ _ _ h => h) (Or.inl ⟨by rfl, ?hy9⟩) (by assumption) ?rest9
        case hy9 => (intro w hSw; (try dsimp only at hSw); go_simp; (try with_reducible rfl))
        try simp only [Act.put, List.setIfInBounds_toArray, List.set_cons_zero, List.set_cons_succ]
        refine wpAnyH_take (i := 10) (oi := { dst := some 29, op := Op.move (Operand.tmp 3), type := 22, pos := "law.go:52", after := #[{ on := 9, ground := Ground.guard }], guard := some (9, true) }) rfl (by kernel_rfl) (by kernel_rfl) (by kernel_rfl) (fun _ _ _ h => h) (Or.inr ⟨by rfl, rfl⟩) (by assumption) ?_
        try simp only [Act.put, List.setIfInBounds_toArray, List.set_cons_zero, List.set_cons_succ]
        refine wpAnyH_take (i := 11) (oi := { dst := some 30, op := Op.move (Operand.tmp 4), type := 3, pos := "law.go:52", after := #[{ on := 9, ground := Ground.guard }], guard := some (9, true) }) rfl (by kernel_rfl) (by kernel_rfl) (by kernel_rfl) (fun _ _ _ h => h) (Or.inr ⟨by rfl, rfl⟩) (by assumption) ?_
        try simp only [Act.put, List.setIfInBounds_toArray, List.set_cons_zero, List.set_cons_succ]
        refine wpAnyH_take (i := 12) (oi := { dst := some 31, op := Op.binOp BinOp.sub 3 (Operand.tmp 30) (Operand.const (Value.int IntKind.i64 1)) 3, type := 3, pos := "law.go:52", after := #[{ on := 11, ground := Ground.data }, { on := 9, ground := Ground.guard }], guard := some (9, true) }) rfl (by kernel_rfl) (by kernel_rfl) (by kernel_rfl) (fun _ _ _ h => h) (Or.inr ⟨by rfl, rfl⟩) (by assumption) ?_
        try simp only [Act.put, List.setIfInBounds_toArray, List.set_cons_zero, List.set_cons_succ]
        refine wpAnyH_take (i := 13) (oi := { dst := some 32, op := Op.indexAddr 22 (Operand.tmp 29) (Operand.tmp 31), type := 0, pos := "law.go:52", after := #[{ on := 10, ground := Ground.data }, { on := 12, ground := Ground.data }, { on := 9, ground := Ground.guard }], guard := some (9, true) }) rfl (by kernel_rfl) (by kernel_rfl) (by kernel_rfl) (fun _ _ _ h => h) (Or.inr ⟨by rfl, rfl⟩) (by assumption) ?_
        try simp only [Act.put, List.setIfInBounds_toArray, List.set_cons_zero, List.set_cons_succ]
        refine wpAnyH_take (i := 14) (oi := { dst := some 33, op := Op.load 9 (Operand.tmp 32), type := 9, pos := "law.go:52", after := #[{ on := 13, ground := Ground.data }, { on := 9, ground := Ground.guard }], guard := some (9, true) }) rfl (by kernel_rfl) (by kernel_rfl) (by kernel_rfl) (fun _ _ _ h => h) (Or.inr ⟨by rfl, rfl⟩) (by assumption) ?_
        try simp only [Act.put, List.setIfInBounds_toArray, List.set_cons_zero, List.set_cons_succ]
        refine wpAnyH_take (i := 15) (oi := { dst := some 34, op := Op.move (Operand.tmp 3), type := 22, pos := "law.go:52", after := #[{ on := 9, ground := Ground.guard }], guard := some (9, true) }) rfl (by kernel_rfl) (by kernel_rfl) (by kernel_rfl) (fun _ _ _ h => h) (Or.inr ⟨by rfl, rfl⟩) (by assumption) ?_
        try simp only [Act.put, List.setIfInBounds_toArray, List.set_cons_zero, List.set_cons_succ]
        refine wpAnyH_take (i := 16) (oi := { dst := some 35, op := Op.move (Operand.tmp 4), type := 3, pos := "law.go:52", after := #[{ on := 9, ground := Ground.guard }], guard := some (9, true) }) rfl (by kernel_rfl) (by kernel_rfl) (by kernel_rfl) (fun _ _ _ h => h) (Or.inr ⟨by rfl, rfl⟩) (by assumption) ?_
        try simp only [Act.put, List.setIfInBounds_toArray, List.set_cons_zero, List.set_cons_succ]
        refine wpAnyH_take (i := 17) (oi := { dst := some 36, op := Op.indexAddr 22 (Operand.tmp 34) (Operand.tmp 35), type := 0, pos := "law.go:52", after := #[{ on := 15, ground := Ground.data }, { on := 16, ground := Ground.data }, { on := 9, ground := Ground.guard }], guard := some (9, true) }) rfl (by kernel_rfl) (by kernel_rfl) (by kernel_rfl) (fun _ _ _ h => h) (Or.inr ⟨by rfl, rfl⟩) (by assumption) ?_
        try simp only [Act.put, List.setIfInBounds_toArray, List.set_cons_zero, List.set_cons_succ]
        refine wpAnyH_take (i := 18) (oi := { dst := some 37, op := Op.load 9 (Operand.tmp 36), type := 9, pos := "law.go:52", after := #[{ on := 17, ground := Ground.data }, { on := 9, ground := Ground.guard }], guard := some (9, true) }) rfl (by kernel_rfl) (by kernel_rfl) (by kernel_rfl) (fun _ _ _ h => h) (Or.inr ⟨by rfl, rfl⟩) (by assumption) ?_
        try simp only [Act.put, List.setIfInBounds_toArray, List.set_cons_zero, List.set_cons_succ]
        refine wpAnyH_take (i := 19) (oi := { dst := some 38, op := Op.call { callee := Callee.value (Operand.func 27), args := #[Operand.tmp 33, Operand.tmp 37], argTypes := #[9, 9] }, type := 3, pos := "law.go:52", after := #[{ on := 14, ground := Ground.data }, { on := 18, ground := Ground.data }, { on := 9, ground := Ground.chain }, { on := 9, ground := Ground.guard }], guard := some (9, true) }) rfl (by kernel_rfl) (by kernel_rfl) (by kernel_rfl) (fun _ _ _ h => h) (Or.inr ⟨by rfl, rfl⟩) (by assumption) ?_
        try simp only [Act.put, List.setIfInBounds_toArray, List.set_cons_zero, List.set_cons_succ]
        refine wpAnyH_take (i := 20) (oi := { dst := some 39, op := Op.binOp BinOp.geq 3 (Operand.tmp 38) (Operand.const (Value.int IntKind.i64 0)) 3, type := 4, pos := "law.go:52", after := #[{ on := 19, ground := Ground.data }, { on := 9, ground := Ground.guard }], guard := some (9, true) }) rfl (by kernel_rfl) (by kernel_rfl) (by kernel_rfl) (fun _ _ _ h => h) (Or.inr ⟨by rfl, rfl⟩) (by assumption) ?_
        try simp only [Act.put, List.setIfInBounds_toArray, List.set_cons_zero, List.set_cons_succ]
        refine wpAnyH_take (i := 21) (oi := { dst := some 40, op := Op.pick (Operand.tmp 28) (Operand.tmp 39) (Operand.const (Value.bool false)), type := 4, pos := "law.go:52", after := #[{ on := 9, ground := Ground.data }, { on := 20, ground := Ground.data }, { on := 6, ground := Ground.guard }], guard := some (6, false) }) (v := ?v21) rfl (by kernel_rfl) (by kernel_rfl) (by kernel_rfl) (fun _ _ _ h => h) (Or.inl ⟨by rfl, ?hy21⟩) (by assumption) ?rest21
        case hy21 => (intro w hSw; (try dsimp only at hSw); go_simp; (try with_reducible rfl))
        try simp only [Act.put, List.setIfInBounds_toArray, List.set_cons_zero, List.set_cons_succ]
        refine wpAnyH_take (i := 22) (oi := { dst := some 41, op := Op.pick (Operand.tmp 25) (Operand.const (Value.bool true)) (Operand.tmp 40), type := 4, pos := "law.go:52", after := #[{ on := 6, ground := Ground.data }, { on := 21, ground := Ground.data }], guard := none }) (v := ?v22) rfl (by kernel_rfl) (by kernel_rfl) (by kernel_rfl) (fun _ _ _ h => h) (Or.inl ⟨by rfl, ?hy22⟩) (by assumption) ?rest22
        case hy22 => (intro w hSw; (try dsimp only at hSw); go_simp; (try with_reducible rfl))
        try simp only [Act.put, List.setIfInBounds_toArray, List.set_cons_zero, List.set_cons_succ]
        refine wpAnyH_done (by kernel_rfl) ?_ _
        obtain ⟨hb5, -, -⟩ := hHeld2
        go_wp2_with fail
        go_roundw
        case rel => exact ⟨0 + 1, by omega, by go_num, Lib.hid (hB.out.trans (hb5.mono bs))⟩
        case measure => simp [intOf]; omega
    · have B5 := Lib.hid (BS.out.trans (hB.out.mono BS.out.size))
      have K2 := Lib.hid (K1.out.below hB.out)
      have X2 := Lib.hid (HX.out.below hB.out)
      go_wp2_with fail
      go_loopw [5] (fun iv w9 => ∃ j : Nat, j ≤ na ∧ iv = .int .i64 j ∧ Hid (Below wr.heap.size wr w9)) (fun iv _ => na - (intOf iv).toNat)
      case atStart => exact ⟨0, by omega, rfl, Lib.hid (Below.refl _ _)⟩
      case round =>
        obtain ⟨j, hj, rfl, hB2⟩ := hrel
        by_cases hlt2 : j < na
        · have Xr := X2.out.below hB2.out
          have Kr := Lib.hid (K2.out.below hB2.out)
          obtain ⟨b, o, rfl, hc⟩ := Xr.1.at (by omega)
          have e1 := hc j hlt2
          have hmem := getD_memT xs j (by omega)
          obtain ⟨x, hx⟩ : ∃ x, xs.getD j ByteArray.empty = x := ⟨_, rfl⟩
          rw [hx] at e1 hmem
          have hxs := Sxs.out x hmem
          obtain ⟨c, hcc⟩ : ∃ c, decide (wordP x) = c := ⟨_, rfl⟩
          have hin : decide (x ∈ Z) = c := by
            rw [← hcc, ← E1.out]; apply decide_eq_decide.2; rw [mem_words]; exact ⟨fun h => h.2, fun h => ⟨hmem, h⟩⟩
          have HW := Lib.hid (fun w => @word_bool w x c hxs hcc)
          have HA := Lib.hid (at_lit a2 k c2 Z x c _ _ Kr.out.1 (by omega) SZ.out hin rfl)
          have bs2 := hB2.out.size
          clear hx hmem hc hin hcc
          cases c
          all_goals
            go_wp2_with fail
            refine HA.out.mono ?_
            rintro e w' ⟨rfl, rfl⟩
            go_wp2_with fail
            refine (HW.out _).mono ?_
            rintro e w' ⟨rfl, hb⟩
            go_wp2_with fail
            go_roundw
            case rel => exact ⟨j + 1, by omega, by go_num, Lib.hid (hB2.out.trans (hb.mono bs2))⟩
            case measure => simp [intOf]; omega
        · have B6 := Lib.hid (B5.out.trans (hB2.out.mono B5.out.size))
          have hle : decide ((k : Int) ≤ (na : Int)) = true := by rw [decide_eq_true_iff]; have := KN.out; omega
          go_wp2_with fail
          refine (awakeL_any _).mono ?_
          rintro e w8 ⟨rfl, hb⟩
          go_wp2_with fail
          go_ret
          exact ⟨rfl, B6.out.trans (hb.mono B6.out.size)⟩
open Go.ChangeShapes Go.WideShapes Go.ChangeAt in
theorem listSorted_walk {H : Type} {enc : TypeId × Value → H} (W : World) (base : Nat) (v0 : Value) (d0 : DataW H) (p0 : List MemPlace)
    (h0 : DataW.Trod enc Try.prog W 0 (fun _ => true) true 22 v0 d0 p0)
    (o0 : Value.okWide Try.prog W .any base 22 v0) :
    Calls Try.prog 5 #[v0] W fun e w' => e = .returned (.bool true) ∧ RowKit.Below W.heap.size W w' := by
  obtain ⟨a0, n0, c0, t0, rfl, x0, y0, z0, b0, s0⟩ := open_texts_arg o0 h0
  exact listSorted_any a0 n0 c0 t0 W ⟨x0, y0, z0⟩ b0 s0
end Go.Proofs.Ytieenopbkkbecaa
