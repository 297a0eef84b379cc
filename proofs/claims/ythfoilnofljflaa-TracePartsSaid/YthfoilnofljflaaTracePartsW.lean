/- trace: the law TraceParts (by gen/trparts.py) -/
import Derived.Test.YthfoilnofljflaaTr6
namespace Go.Proofs.Ythfoilnofljflaa
open Go.RowKit
set_option linter.unusedVariables false
set_option maxRecDepth 20000
theorem rec_info : (Try.prog.info? 38).map (fun i => (i.zero, i.size, i.bytes)) = some (some (.agg #[.int .i64 0, .int .i64 0, .int .i64 0, .int .i64 0, .string ⟨#[]⟩, .int .i64 0, .int .i64 0, .int .i64 0, .int .i64 0, .slice none 0 0, .int .i64 0, .slice none 0 0]), 12, 136) := by kernel_rfl
/-- what is pending of both is pending of one -/
theorem pend_both (A B : List RecP) (z : Int) (h : z ∈ pendL (A ++ B)) : z ∈ pendL A ∨ z ∈ pendL B := by
  unfold pendL at *
  rw [mem_canonZ] at h
  simp only [mem_canonZ]
  unfold outL at h
  obtain ⟨x, hx, hz⟩ := List.mem_flatMap.1 h
  unfold newL at hz
  rw [List.mem_filter] at hz
  obtain ⟨hm, hc⟩ := hz
  have hc := of_decide_eq_true hc
  rw [heardL_app, List.count_append] at hc
  rcases List.mem_append.1 hx with hx | hx
  · left
    exact List.mem_flatMap.2 ⟨x, hx, List.mem_filter.2 ⟨hm, decide_eq_true (by omega)⟩⟩
  · right
    exact List.mem_flatMap.2 ⟨x, hx, List.mem_filter.2 ⟨hm, decide_eq_true (by omega)⟩⟩
theorem pendL_len (xs : List RecP) (n : Nat) (hn : xs.length ≤ n) (h : ∀ x ∈ xs, x.ss.length ≤ 1000) : (pendL xs).length ≤ 1000 * n := by
  have h1 := canonZ_len (outL (heardL xs) xs)
  have h2 := outL_len (heardL xs) xs h
  unfold pendL
  have : 1000 * xs.length ≤ 1000 * n := Nat.mul_le_mul_left _ hn
  omega
theorem any_takeZ (l : List Int) (z : Int) (k : Nat) (h : k < l.length) : (l.take (k + 1)).any (fun v => v == z) = ((l.take k).any (fun v => v == z) || (l.getD k 0 == z)) := by
  rw [take_succ_getD l 0 k h, List.any_append]
  simp
theorem tri_start (w : World) : ((((w.alloc (.cells #[.int .i64 0, .int .i64 0, .int .i64 0, .int .i64 0, .int .i64 0, .int .i64 0] 26)).alloc (.cells #[.int .i64 0, .int .i64 0, .int .i64 0, .int .i64 0, .int .i64 0, .int .i64 0] 26)).alloc (.cells #[.int .i64 0, .int .i64 0, .int .i64 0, .int .i64 0, .int .i64 0, .int .i64 0] 26)).heap[w.heap.size]? = some (.cells #[.int .i64 0, .int .i64 0, .int .i64 0, .int .i64 0, .int .i64 0, .int .i64 0] 26 (0, 0))) ∧ ((((w.alloc (.cells #[.int .i64 0, .int .i64 0, .int .i64 0, .int .i64 0, .int .i64 0, .int .i64 0] 26)).alloc (.cells #[.int .i64 0, .int .i64 0, .int .i64 0, .int .i64 0, .int .i64 0, .int .i64 0] 26)).alloc (.cells #[.int .i64 0, .int .i64 0, .int .i64 0, .int .i64 0, .int .i64 0, .int .i64 0] 26)).heap[w.heap.size + 1]? = some (.cells #[.int .i64 0, .int .i64 0, .int .i64 0, .int .i64 0, .int .i64 0, .int .i64 0] 26 (0, 0))) ∧ ((((w.alloc (.cells #[.int .i64 0, .int .i64 0, .int .i64 0, .int .i64 0, .int .i64 0, .int .i64 0] 26)).alloc (.cells #[.int .i64 0, .int .i64 0, .int .i64 0, .int .i64 0, .int .i64 0, .int .i64 0] 26)).alloc (.cells #[.int .i64 0, .int .i64 0, .int .i64 0, .int .i64 0, .int .i64 0, .int .i64 0] 26)).heap[w.heap.size + 1 + 1]? = some (.cells #[.int .i64 0, .int .i64 0, .int .i64 0, .int .i64 0, .int .i64 0, .int .i64 0] 26 (0, 0))) := by
  obtain ⟨w1, hw1⟩ : ∃ w1, w.alloc (.cells #[.int .i64 0, .int .i64 0, .int .i64 0, .int .i64 0, .int .i64 0, .int .i64 0] 26) = w1 := ⟨_, rfl⟩
  have s1 : w1.heap.size = w.heap.size + 1 := by rw [← hw1]; simp
  have a0 : w1.heap[w.heap.size]? = some (.cells #[.int .i64 0, .int .i64 0, .int .i64 0, .int .i64 0, .int .i64 0, .int .i64 0] 26 (0, 0)) := hw1 ▸ heap_alloc_new w _
  rw [hw1]
  obtain ⟨w2, hw2⟩ : ∃ w2, w1.alloc (.cells #[.int .i64 0, .int .i64 0, .int .i64 0, .int .i64 0, .int .i64 0, .int .i64 0] 26) = w2 := ⟨_, rfl⟩
  have s2 : w2.heap.size = w.heap.size + 1 + 1 := by rw [← hw2, ← s1]; simp
  have a1 : w2.heap[w.heap.size + 1]? = some (.cells #[.int .i64 0, .int .i64 0, .int .i64 0, .int .i64 0, .int .i64 0, .int .i64 0] 26 (0, 0)) := by rw [← s1]; exact hw2 ▸ heap_alloc_new w1 _
  have b2 : Below w1.heap.size w1 w2 := hw2 ▸ below_one w1 _
  have a0 := keepT a0 b2
  rw [hw2]
  obtain ⟨w3, hw3⟩ : ∃ w3, w2.alloc (.cells #[.int .i64 0, .int .i64 0, .int .i64 0, .int .i64 0, .int .i64 0, .int .i64 0] 26) = w3 := ⟨_, rfl⟩
  have a2 : w3.heap[w.heap.size + 1 + 1]? = some (.cells #[.int .i64 0, .int .i64 0, .int .i64 0, .int .i64 0, .int .i64 0, .int .i64 0] 26 (0, 0)) := by rw [← s2]; exact hw3 ▸ heap_alloc_new w2 _
  have b3 : Below w2.heap.size w2 w3 := hw3 ▸ below_one w2 _
  rw [hw3]
  exact ⟨keepT a0 b3, keepT a1 b3, a2⟩
theorem tri_rows (w : World) (X Y Z : Array Value) (wF : World) (hF : (((((w.alloc (.cells #[.int .i64 0, .int .i64 0, .int .i64 0, .int .i64 0, .int .i64 0, .int .i64 0] 26)).alloc (.cells #[.int .i64 0, .int .i64 0, .int .i64 0, .int .i64 0, .int .i64 0, .int .i64 0] 26)).alloc (.cells #[.int .i64 0, .int .i64 0, .int .i64 0, .int .i64 0, .int .i64 0, .int .i64 0] 26)).setRow w.heap.size X).setRow (w.heap.size + 1) Y).setRow (w.heap.size + 1 + 1) Z = wF) :
    wF.heap[w.heap.size]? = some (.cells X 26 (0, 0)) ∧ wF.heap[w.heap.size + 1]? = some (.cells Y 26 (0, 0)) ∧ wF.heap[w.heap.size + 1 + 1]? = some (.cells Z 26 (0, 0)) ∧ Below w.heap.size w wF := by
  obtain ⟨w1, hw1⟩ : ∃ w1, w.alloc (.cells #[.int .i64 0, .int .i64 0, .int .i64 0, .int .i64 0, .int .i64 0, .int .i64 0] 26) = w1 := ⟨_, rfl⟩
  have s1 : w1.heap.size = w.heap.size + 1 := by rw [← hw1]; simp
  have a0 : w1.heap[w.heap.size]? = some (.cells #[.int .i64 0, .int .i64 0, .int .i64 0, .int .i64 0, .int .i64 0, .int .i64 0] 26 (0, 0)) := hw1 ▸ heap_alloc_new w _
  have b1 : Below w.heap.size w w1 := hw1 ▸ below_one w _
  rw [hw1] at hF
  obtain ⟨w2, hw2⟩ : ∃ w2, w1.alloc (.cells #[.int .i64 0, .int .i64 0, .int .i64 0, .int .i64 0, .int .i64 0, .int .i64 0] 26) = w2 := ⟨_, rfl⟩
  have s2 : w2.heap.size = w.heap.size + 1 + 1 := by rw [← hw2, ← s1]; simp
  have a1 : w2.heap[w.heap.size + 1]? = some (.cells #[.int .i64 0, .int .i64 0, .int .i64 0, .int .i64 0, .int .i64 0, .int .i64 0] 26 (0, 0)) := by rw [← s1]; exact hw2 ▸ heap_alloc_new w1 _
  have b2 : Below w1.heap.size w1 w2 := hw2 ▸ below_one w1 _
  have a0 := keepT a0 b2
  rw [hw2] at hF
  obtain ⟨w3, hw3⟩ : ∃ w3, w2.alloc (.cells #[.int .i64 0, .int .i64 0, .int .i64 0, .int .i64 0, .int .i64 0, .int .i64 0] 26) = w3 := ⟨_, rfl⟩
  have a2 : w3.heap[w.heap.size + 1 + 1]? = some (.cells #[.int .i64 0, .int .i64 0, .int .i64 0, .int .i64 0, .int .i64 0, .int .i64 0] 26 (0, 0)) := by rw [← s2]; exact hw3 ▸ heap_alloc_new w2 _
  have b3 : Below w2.heap.size w2 w3 := hw3 ▸ below_one w2 _
  have a0 := keepT a0 b3
  have a1 := keepT a1 b3
  have B := b1.trans ((b2.mono b1.size).trans (b3.mono (by omega)))
  rw [hw3] at hF
  subst hF
  refine ⟨?_, ?_, ?_, below_setRow (below_setRow (below_setRow B (Nat.le_refl _) _) (by omega) _) (by omega) _⟩
  · rw [setRow_other _ _ _ _ (by omega), setRow_other _ _ _ _ (by omega)]; exact setRow_heap _ _ _ _ _ _ a0
  · rw [setRow_other _ _ _ _ (by omega)]
    exact setRow_heap _ _ #[.int .i64 0, .int .i64 0, .int .i64 0, .int .i64 0, .int .i64 0, .int .i64 0] _ _ _ ((setRow_other _ _ _ _ (by omega)).trans a1)
  · exact setRow_heap _ _ #[.int .i64 0, .int .i64 0, .int .i64 0, .int .i64 0, .int .i64 0, .int .i64 0] _ _ _ ((setRow_other _ _ _ _ (by omega)).trans ((setRow_other _ _ _ _ (by omega)).trans a2))
theorem wpList_append_nilT {P : Program} {w : World} {ops : Array Oper} {rest : List Oper} {o : Oper} {a : Act} {Q : Exit → Act → World → Prop} (hgd : o.guard = none) (s x : Operand) (t : TypeId)
    (ho : o.op = .call { callee := .builtin .append, args := #[s, x], argTypes := #[t, t] })
    (base : Nat) (e : TypeId) (i : TypeInfo) (z : Value) (size bytes : Nat) (ht : P.underlying t = some (.slice e)) (hi : P.info? e = some i) (hz : i.zero = some z)
    (hsize : i.size = size) (hby : i.bytes = bytes) (hzs : z.cells.size = size) (hsz : 0 < size) (hs : a.eval s = .slice none 0 0)
    (ao : Option Addr) (m c : Nat) (news : List Value) (hx : a.eval x = .slice ao m c) (hnone : ao = none → m = 0 ∧ c = 0) (hl : news.length = m * size)
    (hnews : ∀ ad, ao = some ad → ∀ j u, news[j]? = some u → w.cell? (ad.add j) = some u) (h1 : ∀ u ∈ news, u.oneCell' = true)
    (h63 : m ≤ maxLen) (hbytes : m * bytes ≤ 140737488355328) (hbase : base ≤ w.heap.size)
    (h : ∀ a' c' w', w'.ownsRow base e size (.slice a' m c') m news → Below base w w' → (a' = none → m = 0 ∧ c' = 0) → wpList P ops Q rest (a.put o.dst (.slice a' m c')) w') : wpList P ops Q (o :: rest) a w :=
  wpList_append_any hgd s x t ho base e i z size bytes ht hi hz hsize hby hzs hsz _ 0 [] hs (World.ownsRow_nil _ _ _ _) ao m c news hx hnone hl hnews h1 (by omega) (by rw [Nat.zero_add]; exact hbytes) hbase (fun a' c' w' g1 g2 g3 => by
    rw [Nat.zero_add] at g1 g3 ⊢
    exact h a' c' w' g1 g2 g3)
set_option maxHeartbeats 6400000 in
set_option maxRecDepth 100000 in
theorem traceParts_any (a1 : Option Addr) (n1 c1 : Nat) (A : List RecP) (a2 : Option Addr) (n2 c2 : Nat) (B : List RecP) (w : World) (h1 : HoldsRc w a1 n1 A) (h2 : HoldsRc w a2 n2 B) (hn1 : a1 = none → n1 = 0 ∧ c1 = 0) (hn2 : a2 = none → n2 = 0 ∧ c2 = 0) (hl1 : n1 ≤ 9223372036854775807) (hl2 : n2 ≤ 9223372036854775807) :
    Calls Try.prog 3 #[.slice a1 n1 c1, .slice a2 n2 c2] w fun e w' => e = .returned (.bool true) ∧ Below w.heap.size w w' := by
  obtain ⟨i0, hi, hz0, hz1, hz2⟩ := info_parts rec_info
  have HA := Lib.hid h1; have HB := Lib.hid h2
  have NA := Lib.hid hn1; have NB := Lib.hid hn2
  have CG1 := Lib.hid (great26_any a1 n1 c1 A w h1 hl1)
  have CG2 := Lib.hid (great26_any a2 n2 c2 B w h2 hl2)
  clear h1 h2 hn1 hn2
  go_enter Try.func3, Try.ntmps3
  go_wp2_with fail
  with_reducible refine CG1.out.mono ?_
  rintro e w' ⟨z1, rfl, rfl, hz1'⟩
  cases z1 with
  | true =>
    go_wp2_with fail
    with_reducible refine (awake26_any _).mono ?_
    rintro e w' ⟨rfl, hb⟩
    go_wp2_with fail
    go_ret
    exact ⟨rfl, hb⟩
  | false =>
  have G1 := Lib.hid (hz1' rfl)
  clear hz1' CG1
  go_wp2_with fail
  with_reducible refine CG2.out.mono ?_
  rintro e w' ⟨z2, rfl, rfl, hz2'⟩
  cases z2 with
  | true =>
    go_wp2_with fail
    with_reducible refine (awake26_any _).mono ?_
    rintro e w' ⟨rfl, hb⟩
    go_wp2_with fail
    go_ret
    exact ⟨rfl, hb⟩
  | false =>
  have G2 := Lib.hid (hz2' rfl)
  clear hz2' CG2
  by_cases h51 : 50 < n1
  · have d1 : decide ((n1 : Int) > 50) = true := decide_eq_true (by omega)
    have d1' : decide (50 < n1) = true := decide_eq_true h51
    go_wp2_with fail
    with_reducible refine (awake26_any _).mono ?_
    rintro e w' ⟨rfl, hb⟩
    go_wp2_with fail
    go_ret
    exact ⟨rfl, hb⟩
  have d1 : decide ((n1 : Int) > 50) = false := decide_eq_false (by omega)
  have d1' : decide (50 < n1) = false := decide_eq_false h51
  by_cases h52 : 50 < n2
  · have d2 : decide ((n2 : Int) > 50) = true := decide_eq_true (by omega)
    have d2' : decide (50 < n2) = true := decide_eq_true h52
    go_wp2_with fail
    with_reducible refine (awake26_any _).mono ?_
    rintro e w' ⟨rfl, hb⟩
    go_wp2_with fail
    go_ret
    exact ⟨rfl, hb⟩
  have d2 : decide ((n2 : Int) > 50) = false := decide_eq_false (by omega)
  have d2' : decide (50 < n2) = false := decide_eq_false h52
  have l1 : n1 ≤ 50 := by omega
  have l2 : n2 ≤ 50 := by omega
  clear h51 h52 hl1 hl2
  have V1 := Lib.hid (show (recsV A).length = n1 * 12 from by rw [recsV_len, HA.out.len])
  have V2 := Lib.hid (show (recsV B).length = n2 * 12 from by rw [recsV_len, HB.out.len])
  go_upto_region 4 with (first | (at_builtin; refine wpList_append_nilT rfl (.const (.slice none 0 0)) (.tmp 33) 22 rfl w.heap.size 38 i0 _ 12 136 Try.underlying22 hi hz0 hz1 hz2 rfl (by decide) rfl _ n1 c1 (recsV A) rfl NA.out V1.out (HA.out.news ⟨rfl, rfl, rfl, Nat.le_refl _, fun _ _ _ => rfl⟩) (recsV_one A) (by unfold maxLen; omega) (by omega) (Nat.le_refl _) ?_; intro a3 c3 w3 hown3 hb3 hnil3) | (at_builtin; refine wpList_append_any rfl (.tmp 34) (.tmp 35) 22 rfl w.heap.size 38 i0 _ 12 136 Try.underlying22 hi hz0 hz1 hz2 rfl (by decide) _ n1 _ rfl hown3 _ n2 c2 (recsV B) rfl NB.out V2.out ((HB.out.below hb3).news ⟨rfl, rfl, rfl, Nat.le_refl _, fun _ _ _ => rfl⟩) (recsV_one B) (by unfold maxLen; omega) (by omega) hb3.size ?_; intro a4 c4 w4 hown4 hb4 hnil4))
  have B4 := Lib.hid (show Below w.heap.size w w4 from hb3.trans hb4)
  have H1 := Lib.hid (show ∀ x ∈ A ++ B, RecOk w x from fun x hx => by
    rcases List.mem_append.1 hx with hx | hx
    · exact HA.out.ok x hx
    · exact HB.out.ok x hx)
  have HC := Lib.hid (holdsRc_own (by rw [recsV_app]; exact hown4) (fun x hx => (H1.out x hx).below B4.out))
  have SA := Lib.hid (show ∀ x ∈ A, x.sn ≤ 1000 ∧ x.ln ≤ 1000 from fun x hx => by have := G1.out.2 x hx; omega)
  have SB := Lib.hid (show ∀ x ∈ B, x.sn ≤ 1000 ∧ x.ln ≤ 1000 from fun x hx => by have := G2.out.2 x hx; omega)
  have SC := Lib.hid (show ∀ x ∈ A ++ B, x.sn ≤ 1000 ∧ x.ln ≤ 1000 from fun x hx => by
    rcases List.mem_append.1 hx with hx | hx
    · exact SA.out x hx
    · exact SB.out x hx)
  obtain ⟨n, hnn⟩ : ∃ n, n1 + n2 = n := ⟨_, rfl⟩
  rw [hnn] at HC
  try rw [hnn]
  have l3 : n ≤ 100 := by omega
  have NN := Lib.hid hnn
  clear hown4 hb4 hnil4 hown3 hb3 hnil3 hnn H1 G1 G2 NA NB V1 V2 hi hz0 hz1 hz2 d1 d1' d2 d2'
  have C1 := Lib.hid (fun (w' : World) (hb : Below w4.heap.size w4 w') => tOf_any a1 n1 c1 A w' (HA.out.below (B4.out.trans (hb.mono B4.out.size))) (by omega) SA.out)
  have C2 := Lib.hid (fun (w' : World) (hb : Below w4.heap.size w4 w') => tOf_any a2 n2 c2 B w' (HB.out.below (B4.out.trans (hb.mono B4.out.size))) (by omega) SB.out)
  have C3 := Lib.hid (fun (w' : World) (hb : Below w4.heap.size w4 w') => tOf_any a4 n c4 (A ++ B) w' (HC.out.below hb) (by omega) SC.out)
  go_wp2_with fail
  with_reducible refine (C1.out _ (Below.refl _ _)).mono ?_
  rintro e w5 ⟨⟨x, hx, rfl⟩, hb5⟩
  have B5 := Lib.hid hb5
  have HX := Lib.hid hx
  clear hb5 hx C1
  go_wp2_with fail
  with_reducible refine (C2.out _ B5.out).mono ?_
  rintro e w6 ⟨⟨y, hy, rfl⟩, hb6⟩
  have B6 := Lib.hid (B5.out.trans (hb6.mono B5.out.size))
  have HY := Lib.hid hy
  clear hb6 hy C2
  go_wp2_with fail
  with_reducible refine (C3.out _ B6.out).mono ?_
  rintro e w7 ⟨⟨z, hz, rfl⟩, hb7⟩
  have B7 := Lib.hid (B6.out.trans (hb7.mono B6.out.size))
  rw [sumS_app, HX.out, HY.out] at hz
  subst hz
  clear hb7 C3
  have BA := sumS_in A SA.out
  have BB := sumS_in B SB.out
  rw [HX.out, HA.out.len] at BA
  rw [HY.out, HB.out.len] at BB
  obtain ⟨⟨p1, p2⟩, ⟨p3, p4⟩, ⟨p5, p6⟩, ⟨p7, p8⟩, ⟨p9, p10⟩, p11, p12⟩ := BA
  obtain ⟨⟨q1, q2⟩, ⟨q3, q4⟩, ⟨q5, q6⟩, ⟨q7, q8⟩, ⟨q9, q10⟩, q11, q12⟩ := BB
  have ea : IntKind.i64.wrap (x.a + y.a) = x.a + y.a := by rw [IntKind.wrap_i64]; omega
  have eb : IntKind.i64.wrap (x.b + y.b) = x.b + y.b := by rw [IntKind.wrap_i64]; omega
  have ec : IntKind.i64.wrap (x.c + y.c) = x.c + y.c := by rw [IntKind.wrap_i64]; omega
  have ed : IntKind.i64.wrap (x.d + y.d) = x.d + y.d := by rw [IntKind.wrap_i64]; omega
  have ee : IntKind.i64.wrap (x.e + y.e) = x.e + y.e := by rw [IntKind.wrap_i64]; omega
  have ef : IntKind.i64.wrap (x.f + y.f) = x.f + y.f := by rw [IntKind.wrap_i64]; omega
  clear p1 p2 p3 p4 p5 p6 p7 p8 p9 p10 p11 p12 q1 q2 q3 q4 q5 q6 q7 q8 q9 q10 q11 q12
  have K0 := Lib.hid (tri_start w7).1
  have K1 := Lib.hid ((setRow_other _ w7.heap.size (w7.heap.size + 1) #[.int .i64 x.a, .int .i64 x.b, .int .i64 x.c, .int .i64 x.d, .int .i64 x.e, .int .i64 x.f] (by omega)).trans (tri_start w7).2.1)
  have K2 := Lib.hid ((setRow_other _ (w7.heap.size + 1) (w7.heap.size + 1 + 1) #[.int .i64 y.a, .int .i64 y.b, .int .i64 y.c, .int .i64 y.d, .int .i64 y.e, .int .i64 y.f] (by omega)).trans ((setRow_other _ w7.heap.size (w7.heap.size + 1 + 1) #[.int .i64 x.a, .int .i64 x.b, .int .i64 x.c, .int .i64 x.d, .int .i64 x.e, .int .i64 x.f] (by omega)).trans (tri_start w7).2.2))
  go_upto_region 5 with (first
    | (refine wpList_store_row rfl 26 (.tmp 6) (.tmp 38) rfl w7.heap.size #[.int .i64 x.a, .int .i64 x.b, .int .i64 x.c, .int .i64 x.d, .int .i64 x.e, .int .i64 x.f] rfl rfl 26 #[.int .i64 0, .int .i64 0, .int .i64 0, .int .i64 0, .int .i64 0, .int .i64 0] K0.out (by kernel_rfl) rfl (by simp [Value.oneCell']) ?_)
    | (refine wpList_store_row rfl 26 (.tmp 7) (.tmp 40) rfl (w7.heap.size + 1) #[.int .i64 y.a, .int .i64 y.b, .int .i64 y.c, .int .i64 y.d, .int .i64 y.e, .int .i64 y.f] rfl rfl 26 #[.int .i64 0, .int .i64 0, .int .i64 0, .int .i64 0, .int .i64 0, .int .i64 0] K1.out (by kernel_rfl) rfl (by simp [Value.oneCell']) ?_)
    | (refine wpList_store_row rfl 26 (.tmp 8) (.tmp 42) rfl (w7.heap.size + 1 + 1) #[.int .i64 (x.a + y.a), .int .i64 (x.b + y.b), .int .i64 (x.c + y.c), .int .i64 (x.d + y.d), .int .i64 (x.e + y.e), .int .i64 (x.f + y.f)] rfl rfl 26 #[.int .i64 0, .int .i64 0, .int .i64 0, .int .i64 0, .int .i64 0, .int .i64 0] K2.out (by kernel_rfl) rfl (by simp [Value.oneCell']) ?_)
    | fail)
  obtain ⟨w8, hw8⟩ : ∃ w8, (((((w7.alloc (.cells #[.int .i64 0, .int .i64 0, .int .i64 0, .int .i64 0, .int .i64 0, .int .i64 0] 26)).alloc (.cells #[.int .i64 0, .int .i64 0, .int .i64 0, .int .i64 0, .int .i64 0, .int .i64 0] 26)).alloc (.cells #[.int .i64 0, .int .i64 0, .int .i64 0, .int .i64 0, .int .i64 0, .int .i64 0] 26)).setRow w7.heap.size #[.int .i64 x.a, .int .i64 x.b, .int .i64 x.c, .int .i64 x.d, .int .i64 x.e, .int .i64 x.f]).setRow (w7.heap.size + 1) #[.int .i64 y.a, .int .i64 y.b, .int .i64 y.c, .int .i64 y.d, .int .i64 y.e, .int .i64 y.f]).setRow (w7.heap.size + 1 + 1) #[.int .i64 (x.a + y.a), .int .i64 (x.b + y.b), .int .i64 (x.c + y.c), .int .i64 (x.d + y.d), .int .i64 (x.e + y.e), .int .i64 (x.f + y.f)] = w8 := ⟨_, rfl⟩
  obtain ⟨f0, f1, f2, bf⟩ := tri_rows w7 #[.int .i64 x.a, .int .i64 x.b, .int .i64 x.c, .int .i64 x.d, .int .i64 x.e, .int .i64 x.f] #[.int .i64 y.a, .int .i64 y.b, .int .i64 y.c, .int .i64 y.d, .int .i64 y.e, .int .i64 y.f] #[.int .i64 (x.a + y.a), .int .i64 (x.b + y.b), .int .i64 (x.c + y.c), .int .i64 (x.d + y.d), .int .i64 (x.e + y.e), .int .i64 (x.f + y.f)] w8 hw8
  have B8 := Lib.hid (B7.out.trans (bf.mono B7.out.size))
  rw [hw8]
  obtain ⟨p, hp⟩ : ∃ p, w7.heap.size = p := ⟨_, rfl⟩
  rw [hp] at f0 f1 f2
  try simp only [hp]
  have g00 := cellT (i := 0) f0 rfl
  have g01 := cellT (i := 1) f0 rfl
  have g02 := cellT (i := 2) f0 rfl
  have g03 := cellT (i := 3) f0 rfl
  have g04 := cellT (i := 4) f0 rfl
  have g05 := cellT (i := 5) f0 rfl
  have g10 := cellT (i := 0) f1 rfl
  have g11 := cellT (i := 1) f1 rfl
  have g12 := cellT (i := 2) f1 rfl
  have g13 := cellT (i := 3) f1 rfl
  have g14 := cellT (i := 4) f1 rfl
  have g15 := cellT (i := 5) f1 rfl
  have g20 := cellT (i := 0) f2 rfl
  have g21 := cellT (i := 1) f2 rfl
  have g22 := cellT (i := 2) f2 rfl
  have g23 := cellT (i := 3) f2 rfl
  have g24 := cellT (i := 4) f2 rfl
  have g25 := cellT (i := 5) f2 rfl
  clear f0 f1 f2 bf hw8 hp K0 K1 K2 B7 B6 B5 HX HY
  go_upto_region 7 with fail
  clear g00 g01 g02 g03 g04 g05 g10 g11 g12 g13 g14 g15 g20 g21 g22 g23 g24 g25 ea eb ec ed ee ef
  have C1 := Lib.hid (fun (w' : World) (hb : Below w4.heap.size w4 w') => tPending_any a1 n1 c1 A w' (HA.out.below (B4.out.trans (hb.mono B4.out.size))) (by omega) SA.out)
  have C2 := Lib.hid (fun (w' : World) (hb : Below w4.heap.size w4 w') => tPending_any a2 n2 c2 B w' (HB.out.below (B4.out.trans (hb.mono B4.out.size))) (by omega) SB.out)
  have C3 := Lib.hid (fun (w' : World) (hb : Below w4.heap.size w4 w') => tPending_any a4 n c4 (A ++ B) w' (HC.out.below hb) (by omega) SC.out)
  have PB := Lib.hid (fun z => pend_both A B z)
  have UP := Lib.hid (show (pendL (A ++ B)).Pairwise (fun x y => x < y) from canonZ_up _)
  have L1 := pendL_len A 50 (by rw [HA.out.len]; exact l1) (fun x hx => by rw [(HA.out.ok x hx).s.1]; exact (SA.out x hx).1)
  have L2 := pendL_len B 50 (by rw [HB.out.len]; exact l2) (fun x hx => by rw [(HB.out.ok x hx).s.1]; exact (SB.out x hx).1)
  have L3 := pendL_len (A ++ B) 100 (by rw [HC.out.len]; exact l3) (fun x hx => by rw [(HC.out.ok x hx).s.1]; exact (SC.out x hx).1)
  obtain ⟨P, hP⟩ : ∃ P, pendL A = P := ⟨_, rfl⟩
  obtain ⟨Q, hQ⟩ : ∃ Q, pendL B = Q := ⟨_, rfl⟩
  obtain ⟨R, hR⟩ : ∃ R, pendL (A ++ B) = R := ⟨_, rfl⟩
  rw [hP] at C1 PB L1
  rw [hQ] at C2 PB L2
  rw [hR] at C3 PB UP L3
  obtain ⟨np, hnp⟩ : ∃ np, P.length = np := ⟨_, rfl⟩
  obtain ⟨nq, hnq⟩ : ∃ nq, Q.length = nq := ⟨_, rfl⟩
  obtain ⟨nr, hnr⟩ : ∃ nr, R.length = nr := ⟨_, rfl⟩
  unfold RetN at C1 C2 C3
  rw [hnp] at C1 L1
  rw [hnq] at C2 L2
  rw [hnr] at C3 L3
  have HNP := Lib.hid hnp; have HNQ := Lib.hid hnq; have HNR := Lib.hid hnr
  clear hP hQ hR hnp hnq hnr
  go_wp2_with fail
  with_reducible refine (C1.out _ B8.out).mono ?_
  rintro e w5 ⟨a5, c5, rfl, ho5, hb5⟩
  have B5 := Lib.hid (B8.out.trans (hb5.mono B8.out.size))
  have O5 := Lib.hid (RetN.holds ho5)
  clear ho5 hb5 C1
  go_wp2_with fail
  with_reducible refine (C2.out _ B5.out).mono ?_
  rintro e w6 ⟨a6, c6, rfl, ho6, hb6⟩
  have B6 := Lib.hid (B5.out.trans (hb6.mono B5.out.size))
  have O6 := Lib.hid (RetN.holds ho6)
  have O56 := Lib.hid (O5.out.below hb6)
  clear ho6 hb6 C2 O5
  go_wp2_with fail
  with_reducible refine (C3.out _ B6.out).mono ?_
  rintro e w9 ⟨a7, c7, rfl, ho7, hb7⟩
  have B9 := Lib.hid (B6.out.trans (hb7.mono B6.out.size))
  have OR := Lib.hid (RetN.holds ho7)
  have OQ := Lib.hid (O6.out.below hb7)
  have OP := Lib.hid (O56.out.below hb7)
  clear ho7 hb7 C3 O6 O56 B8 B5 B6
  go_wp2_with fail
  go_loopw [12, 13, 14, 15] (fun iv nv kv lv wr => ∃ (j m : Nat), j ≤ nr ∧ iv = .int .i64 j ∧ wr = w9.drewN m) (fun iv _ _ _ _ => nr - (intOf iv).toNat)
  case atStart => exact ⟨0, 0, by omega, rfl, rfl⟩
  case round =>
    obtain ⟨j, m, hj, rfl, rfl⟩ := hrel
    by_cases hlt : j < nr
    · obtain ⟨rb, ro, hra, hrc⟩ := OR.out.2 (by omega)
      have r1 := hrc j hlt
      obtain ⟨z, hz⟩ : ∃ z, R.getD j 0 = z := ⟨_, rfl⟩
      rw [hz] at r1
      have HZ := Lib.hid hz
      have RC := Lib.hid hrc
      have ZIN := Lib.hid (show (P.any (fun v => v == z) || Q.any (fun v => v == z)) = true from by
        have hzr : z ∈ R := by
          rw [← hz, List.getD_eq_getElem?_getD, List.getElem?_eq_getElem (by rw [HNR.out]; exact hlt)]
          exact List.getElem_mem _
        rcases PB.out z hzr with h | h
        · rw [List.any_eq_true.2 ⟨z, h, by simp⟩]; rfl
        · rw [List.any_eq_true.2 ⟨z, h, by simp⟩]; simp)
      have j1 : (0 : Int) ≤ (j : Int) := by omega
      have j2 : (j : Int) < (nr : Int) := by omega
      rw [hra]
      clear hrc hz hra
      go_wp2_with fail
      go_loopw [13, 14] (fun iv kv wr => ∃ (k m : Nat), k ≤ np ∧ kv = .int .i64 k ∧ iv = .bool ((P.take k).any (fun v => v == z)) ∧ wr = w9.drewN m) (fun _ kv _ => np - (intOf kv).toNat)
      case atStart => exact ⟨0, _, by omega, rfl, rfl, rfl⟩
      case round =>
        obtain ⟨k, m2, hk, rfl, rfl, rfl⟩ := hrel
        by_cases hkl : k < np
        · have hnx := any_takeZ P z k (by rw [HNP.out]; exact hkl)
          obtain ⟨b0, hb0⟩ : ∃ b0, ((P.take k).any (fun v => v == z)) = b0 := ⟨_, rfl⟩
          rw [hb0]
          obtain ⟨pb, po, hpa, hpc⟩ := OP.out.2 (by omega)
          have u1 := hpc k hkl
          obtain ⟨x1, hx1⟩ : ∃ v, P.getD k 0 = v := ⟨_, rfl⟩
          rw [hx1] at u1 hnx
          obtain ⟨e1, he1⟩ : ∃ e1 : Bool, (x1 == z) = e1 := ⟨_, rfl⟩
          rw [he1] at hnx
          have NX := Lib.hid (show ((P.take (k + 1)).any (fun v => v == z)) = (b0 || e1) from by rw [hnx, ← hb0])
          have k1 : (0 : Int) ≤ (k : Int) := by omega
          have k2 : (k : Int) < (np : Int) := by omega
          rw [hpa]
          clear hpc hnx hb0 hx1 hpa
          cases b0 with
          | true =>
            go_wp2_with fail
            go_quiet (fail)
            go_wp2_with fail
            go_roundw
            case rel => exact ⟨k + 1, _, by omega, by go_num, by rw [NX.out]; rfl, rfl⟩
            case measure => simp [intOf]; omega
          | false =>
            go_wp2_with fail
            go_quiet (fail)
            go_wp2_with fail
            go_roundw
            case rel => exact ⟨k + 1, _, by omega, by go_num, by rw [NX.out]; rfl, rfl⟩
            case measure => simp [intOf]; omega
        · obtain rfl : k = np := by omega
          have TP := Lib.hid (show (P.take k).any (fun v => v == z) = P.any (fun v => v == z) from by rw [List.take_of_length_le (by rw [HNP.out]; exact Nat.le_refl _)])
          rw [TP.out]
          obtain ⟨bp, hbp⟩ : ∃ bp, P.any (fun v => v == z) = bp := ⟨_, rfl⟩
          rw [hbp] at ZIN
          rw [hbp]
          clear TP hbp
          go_wp2_with fail
          go_loopw [13, 15] (fun iv kv wr => ∃ (k m : Nat), k ≤ nq ∧ kv = .int .i64 k ∧ iv = .bool (bp || (Q.take k).any (fun v => v == z)) ∧ wr = w9.drewN m) (fun _ kv _ => nq - (intOf kv).toNat)
          case atStart => exact ⟨0, _, by omega, rfl, (by simp), rfl⟩
          case round =>
            obtain ⟨k, m2, hk, rfl, rfl, rfl⟩ := hrel
            by_cases hkl : k < nq
            · have hnx := any_takeZ Q z k (by rw [HNQ.out]; exact hkl)
              obtain ⟨b0, hb0⟩ : ∃ b0, (bp || (Q.take k).any (fun v => v == z)) = b0 := ⟨_, rfl⟩
              rw [hb0]
              obtain ⟨pb, po, hpa, hpc⟩ := OQ.out.2 (by omega)
              have u1 := hpc k hkl
              obtain ⟨x1, hx1⟩ : ∃ v, Q.getD k 0 = v := ⟨_, rfl⟩
              rw [hx1] at u1 hnx
              obtain ⟨e1, he1⟩ : ∃ e1 : Bool, (x1 == z) = e1 := ⟨_, rfl⟩
              rw [he1] at hnx
              have NX := Lib.hid (show (bp || (Q.take (k + 1)).any (fun v => v == z)) = (b0 || e1) from by rw [hnx, ← hb0]; exact (Bool.or_assoc _ _ _).symm)
              have k1 : (0 : Int) ≤ (k : Int) := by omega
              have k2 : (k : Int) < (nq : Int) := by omega
              rw [hpa]
              clear hpc hnx hb0 hx1 hpa
              cases b0 with
              | true =>
                go_wp2_with fail
                go_quiet (fail)
                go_wp2_with fail
                go_roundw
                case rel => exact ⟨k + 1, _, by omega, by go_num, by rw [NX.out]; rfl, rfl⟩
                case measure => simp [intOf]; omega
              | false =>
                go_wp2_with fail
                go_quiet (fail)
                go_wp2_with fail
                go_roundw
                case rel => exact ⟨k + 1, _, by omega, by go_num, by rw [NX.out]; rfl, rfl⟩
                case measure => simp [intOf]; omega
            · obtain rfl : k = nq := by omega
              have TQ := Lib.hid (show (bp || (Q.take k).any (fun v => v == z)) = true from by rw [List.take_of_length_le (by rw [HNQ.out]; exact Nat.le_refl _)]; exact ZIN.out)
              rw [TQ.out]
              clear TQ ZIN
              cases j with
              | zero =>
                go_wp2_with fail
                go_quiet (fail)
                go_wp2_with fail
                go_roundw
                case rel => exact ⟨1, _, by omega, by go_num, rfl⟩
                case measure => simp [intOf]; omega
              | succ j' =>
                have r0 := RC.out j' (by omega)
                obtain ⟨y, hy⟩ : ∃ y, R.getD j' 0 = y := ⟨_, rfl⟩
                have hyz : y < z := by
                  have hup := List.pairwise_iff_getElem.1 UP.out j' (j' + 1) (by rw [HNR.out]; omega) (by rw [HNR.out]; omega) (by omega)
                  rw [← hy, ← HZ.out, List.getD_eq_getElem?_getD, List.getD_eq_getElem?_getD, List.getElem?_eq_getElem (by rw [HNR.out]; omega), List.getElem?_eq_getElem (by rw [HNR.out]; omega)]
                  exact hup
                rw [hy] at r0
                have g1 : decide (y ≥ z) = false := decide_eq_false (by omega)
                have g1' : decide (z ≤ y) = false := decide_eq_false (by omega)
                have g2 : decide (((j' : Int) + 1) > 0) = true := decide_eq_true (by omega)
                have g2' : decide (0 < (j' : Int) + 1) = true := decide_eq_true (by omega)
                have g3 : (0 : Int) ≤ (j' : Int) := by omega
                have g4 : (j' : Int) < (nr : Int) := by omega
                clear hy hyz RC HZ
                go_wp2_with fail
                go_quiet (fail)
                go_wp2_with fail
                go_roundw
                case rel => exact ⟨j' + 1 + 1, _, by omega, by go_num, rfl⟩
                case measure => simp [intOf]; omega
    · obtain rfl : nr = j := by omega
      have BM := Lib.hid (B9.out.trans ((below_drewN w9 m).mono B9.out.size))
      generalize w9.drewN m = w10 at BM ⊢
      have AA := Lib.hid (askL_app A B)
      have C3 := Lib.hid (tAsked_any a4 n c4 (A ++ B) w10 (HC.out.below BM.out) (by omega))
      have C1 := Lib.hid (fun (w' : World) (hb : Below w4.heap.size w4 w') => tAsked_any a1 n1 c1 A w' (HA.out.below (B4.out.trans (hb.mono B4.out.size))) (by omega))
      have C2 := Lib.hid (fun (w' : World) (hb : Below w4.heap.size w4 w') => tAsked_any a2 n2 c2 B w' (HB.out.below (B4.out.trans (hb.mono B4.out.size))) (by omega))
      have L1 := askL_len A; have L2 := askL_len B
      rw [HA.out.len] at L1
      rw [HB.out.len] at L2
      obtain ⟨P, hP⟩ : ∃ P, askL A = P := ⟨_, rfl⟩
      obtain ⟨Q, hQ⟩ : ∃ Q, askL B = Q := ⟨_, rfl⟩
      rw [hP, hQ] at AA
      unfold RetN at C1 C2 C3
      rw [AA.out] at C3
      rw [hP] at C1 L1
      rw [hQ] at C2 L2
      obtain ⟨np, hnp⟩ : ∃ np, P.length = np := ⟨_, rfl⟩
      obtain ⟨nq, hnq⟩ : ∃ nq, Q.length = nq := ⟨_, rfl⟩
      have hns : (P ++ Q).length = np + nq := by rw [List.length_append, hnp, hnq]
      rw [hns] at C3
      rw [hnp] at C1 L1
      rw [hnq] at C2 L2
      have VQ := Lib.hid (show (intsV Q).length = nq * 1 from by unfold intsV; rw [List.length_map, hnq]; omega)
      obtain ⟨ns, hns2⟩ : ∃ ns, np + nq = ns := ⟨_, rfl⟩
      rw [hns2] at C3
      have HNS := Lib.hid hns2
      have l4 : ns ≤ 100 := by omega
      clear AA hP hQ hnp hnq hns hns2 OR OQ OP PB UP HNP HNQ HNR L3
      obtain ⟨i1, hi, hz0, hz1, hz2⟩ := info_parts tint_info
      go_wp2_with fail
      with_reducible refine C3.out.mono ?_
      rintro e w11 ⟨a11, c11, rfl, ho, hb⟩
      have B11 := Lib.hid (BM.out.trans (hb.mono BM.out.size))
      have O11 := Lib.hid (RetN.holds ho)
      clear ho hb C3
      go_wp2_with fail
      with_reducible refine (C1.out _ B11.out).mono ?_
      rintro e w12 ⟨a12, c12, rfl, ho, hb⟩
      have B12 := Lib.hid (B11.out.trans (hb.mono B11.out.size))
      have D12 := Lib.hid hb
      have OA := Lib.hid ho
      have S12 := Lib.hid (show w11.heap.size ≤ w12.heap.size from hb.size)
      clear ho hb C1
      go_wp2_with fail
      with_reducible refine (C2.out _ B12.out).mono ?_
      rintro e w13 ⟨a13, c13, rfl, ho, hb⟩
      have B13 := Lib.hid (B12.out.trans (hb.mono B12.out.size))
      have D13 := Lib.hid (D12.out.trans (hb.mono D12.out.size))
      have OA3 := Lib.hid (owns_below OA.out hb)
      have OB := Lib.hid (show HoldsV w13 a13 nq (intsV Q) from owns_holds ho)
      have NB := Lib.hid (owns_none ho).1
      have S13 := Lib.hid (show w11.heap.size ≤ w13.heap.size from Nat.le_trans S12.out hb.size)
      clear ho hb C2 OA D12
      go_wp2_with (at_builtin; refine wpList_append_any rfl (.tmp 170) (.tmp 172) 28 rfl w11.heap.size 3 i1 _ 1 8 Try.underlying28 hi hz0 hz1 hz2 rfl (by decide) _ np _ rfl OA3.out _ nq c13 (intsV Q) rfl NB.out VQ.out (OB.out.cells ⟨rfl, rfl, rfl, Nat.le_refl _, fun _ _ _ => rfl⟩) (by intro u hu; obtain ⟨v, -, rfl⟩ := List.mem_map.1 hu; rfl) (by unfold maxLen; omega) (by omega) S13.out ?_; intro a14 c14 w14 hown14 hb14 hnil14)
      have O14 := Lib.hid (show HoldsI .i64 w14 a11 ns (P ++ Q) from O11.out.below (D13.out.trans hb14))
      have OC := Lib.hid (show HoldsI .i64 w14 a14 ns (P ++ Q) from by
        have h1 := hown14
        rw [HNS.out, show intsV P ++ intsV Q = intsV (P ++ Q) from by simp [intsV]] at h1
        exact RetN.holds h1)
      have B14 := Lib.hid (B11.out.trans ((D13.out.trans hb14).mono B11.out.size))
      have CS := Lib.hid (sameInts_any a11 a14 ns c11 ns c14 (P ++ Q) (P ++ Q) w14 O14.out OC.out (by omega) (by omega))
      rw [decide_eq_true rfl] at CS
      try rw [HNS.out]
      clear hown14 hb14 hnil14 O11 OA3 OB NB S13 D13 O14 OC
      go_wp2_with fail
      with_reducible refine CS.out.mono ?_
      rintro e w15 ⟨rfl, m15, rfl⟩
      have B15 := Lib.hid (B14.out.trans ((below_drewN w14 m15).mono B14.out.size))
      generalize w14.drewN m15 = w16 at B15 ⊢
      clear CS B14
      go_wp2_with fail
      with_reducible refine (awake26_any _).mono ?_
      rintro e w17 ⟨rfl, hb⟩
      have B17 := Lib.hid (B4.out.trans ((B15.out.trans (hb.mono B15.out.size)).mono B4.out.size))
      clear hb
      go_wp2_with fail
      go_ret
      exact ⟨rfl, B17.out⟩
open Go.ChangeShapes Go.WideShapes Go.ChangeAt in
theorem traceParts_walk {H : Type} {enc : TypeId × Value → H} (W : World) (base : Nat) (v0 v1 : Value) (d0 d1 : DataW H) (p0 p1 : List MemPlace)
    (h0 : DataW.Trod enc Try.prog W 0 (fun _ => true) true 22 v0 d0 p0) (h1 : DataW.Trod enc Try.prog W 0 (fun _ => true) true 22 v1 d1 p1)
    (o0 : Value.okWide Try.prog W .any base 22 v0) (o1 : Value.okWide Try.prog W .any base 22 v1) :
    Calls Try.prog 3 #[v0, v1] W fun e w' => e = .returned (.bool true) ∧ RowKit.Below W.heap.size W w' := by
  obtain ⟨a1, n1, c1, A, rfl, hh1, hn1, l1⟩ := open_recs_arg o0 h0
  obtain ⟨a2, n2, c2, B, rfl, hh2, hn2, l2⟩ := open_recs_arg o1 h1
  exact traceParts_any a1 n1 c1 A a2 n2 c2 B W hh1 hh2 hn1 hn2 (by unfold maxLen at l1; omega) (by unfold maxLen at l2; omega)
end Go.Proofs.Ythfoilnofljflaa
