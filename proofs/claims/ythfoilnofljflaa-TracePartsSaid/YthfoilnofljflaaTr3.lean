/- trace: Of, Asked (by gen/tr3.py) -/
import Derived.Test.YthfoilnofljflaaTr2
import Derived.WalkLawsBesides
import Derived.Outline
import Derived.Deep.QuietTactic
import Derived.BigQuiet
import Derived.Deep.RegionLaw
import Derived.Deep.RegionHeld3
import Derived.Deep.AppendLies
import Derived.Deep.DeepCutAuto
import Derived.Laws.CopyOwn
import Derived.Lib.Hide
import Derived.WalkSpells
namespace Go.Proofs.Ythfoilnofljflaa
open Go.RowKit
set_option linter.unusedVariables false
set_option maxRecDepth 20000
theorem cellT {w : World} {p i : Nat} {v : Value} {cs : Array Value} {t : TypeId} {fr : Nat × Nat} (h : w.heap[p]? = some (.cells cs t fr)) (h0 : cs[i]? = some v) : w.cell? ⟨p, i, none⟩ = some v := by
  simp [World.cell?, h, h0]
theorem freeT {w : World} {p i : Nat} {cs : Array Value} {t : TypeId} (h : w.heap[p]? = some (.cells cs t (0, 0))) : w.frozen? ⟨p, i, none⟩ = false := by
  simp [World.frozen?, h]
theorem setT {w : World} {p i : Nat} {v : Value} {cs : Array Value} {t : TypeId} {fr : Nat × Nat} (h : w.heap[p]? = some (.cells cs t fr)) : (w.setCell ⟨p, i, none⟩ v).heap[p]? = some (.cells (cs.setIfInBounds i v) t fr) := by
  rw [setCell_eq_setRow w p i cs t fr v h]
  exact setRow_heap w p cs _ t fr h
theorem keepT {w w' : World} {p : Nat} {o : Obj} (h : w.heap[p]? = some o) (hb : Below w.heap.size w w') : w'.heap[p]? = some o := (hb.block p (Array.getElem?_eq_some_iff.1 h).1).trans h
theorem recIn_new (w : World) (x : RecP) (p : Nat) (e : TypeId) (fr : Nat × Nat) (hp : p = w.heap.size) : RecIn (w.alloc (.cells #[.int .i64 x.kd, .int .i64 x.nd, .int .i64 x.at_, .int .i64 x.ex, .string x.qt, .int .i64 x.qk, .int .i64 x.qn, .int .i64 x.vd, .int .i64 x.id, .slice x.sa x.sn x.sc, .int .i64 x.got, .slice x.la x.ln x.lc] e fr)) p 0 x := by
  subst hp
  unfold RecIn
  refine ⟨?_, ?_, ?_, ?_, ?_, ?_, ?_, ?_, ?_, ?_, ?_, ?_⟩ <;> (rw [World.cell?_alloc_mark]; rfl)
structure Sm6 where
  a : Int
  b : Int
  c : Int
  d : Int
  e : Int
  f : Int
def one01 (p : Prop) [Decidable p] : Int := if p then 1 else 0
def stepS (s : Sm6) (x : RecP) : Sm6 := ⟨s.a + x.sn, s.b + one01 (0 ≤ x.got), s.c + x.ln, s.d + one01 (x.vd = 3), s.e + one01 (x.vd = 2), s.f + one01 (x.vd = 1)⟩
def sumS (l : List RecP) : Sm6 := l.foldl stepS ⟨0, 0, 0, 0, 0, 0⟩
theorem one01_bd (p : Prop) [Decidable p] : 0 ≤ one01 p ∧ one01 p ≤ 1 := by unfold one01; split <;> omega
def inS (m : Int) (s : Sm6) : Prop := (0 ≤ s.a ∧ s.a ≤ m) ∧ (0 ≤ s.b ∧ s.b ≤ m) ∧ (0 ≤ s.c ∧ s.c ≤ m) ∧ (0 ≤ s.d ∧ s.d ≤ m) ∧ (0 ≤ s.e ∧ s.e ≤ m) ∧ (0 ≤ s.f ∧ s.f ≤ m)
theorem stepS_in {m : Int} {s : Sm6} {x : RecP} (h : inS m s) (h1 : x.sn ≤ 1000) (h2 : x.ln ≤ 1000) : inS (m + 1000) (stepS s x) := by
  obtain ⟨⟨a1, a2⟩, ⟨b1, b2⟩, ⟨c1, c2⟩, ⟨d1, d2⟩, ⟨e1, e2⟩, f1, f2⟩ := h
  have g1 := one01_bd (0 ≤ x.got); have g2 := one01_bd (x.vd = 3); have g3 := one01_bd (x.vd = 2); have g4 := one01_bd (x.vd = 1)
  refine ⟨⟨?_, ?_⟩, ⟨?_, ?_⟩, ⟨?_, ?_⟩, ⟨?_, ?_⟩, ⟨?_, ?_⟩, ?_, ?_⟩ <;> (simp only [stepS]; omega)
theorem foldl_in : ∀ (l : List RecP) (m : Int) (s : Sm6), inS m s → (∀ x ∈ l, x.sn ≤ 1000 ∧ x.ln ≤ 1000) → inS (m + 1000 * l.length) (l.foldl stepS s)
  | [], m, s, h, _ => by simpa using h
  | x :: l, m, s, h, hx => by
    have := foldl_in l (m + 1000) (stepS s x) (stepS_in h (hx x (by simp)).1 (hx x (by simp)).2) (fun y hy => hx y (by simp [hy]))
    rw [show m + 1000 * ((x :: l).length : Int) = m + 1000 + 1000 * (l.length : Int) by simp; omega]
    exact this
theorem sumS_in (l : List RecP) (hx : ∀ x ∈ l, x.sn ≤ 1000 ∧ x.ln ≤ 1000) : inS (1000 * l.length) (sumS l) := by
  have := foldl_in l 0 ⟨0, 0, 0, 0, 0, 0⟩ (by refine ⟨⟨?_, ?_⟩, ⟨?_, ?_⟩, ⟨?_, ?_⟩, ⟨?_, ?_⟩, ⟨?_, ?_⟩, ?_, ?_⟩ <;> simp) hx
  simp only [Int.zero_add] at this
  exact this
theorem sumS_next (l : List RecP) (j : Nat) (h : j < l.length) : sumS (l.take (j + 1)) = stepS (sumS (l.take j)) (l.getD j r0) := by
  unfold sumS
  rw [take_succ_getD l r0 j h, List.foldl_append]
  rfl
theorem foldl_add : ∀ (l : List RecP) (s : Sm6), l.foldl stepS s = ⟨s.a + (sumS l).a, s.b + (sumS l).b, s.c + (sumS l).c, s.d + (sumS l).d, s.e + (sumS l).e, s.f + (sumS l).f⟩
  | [], s => by simp [sumS]
  | x :: l, s => by
    have e1 := foldl_add l (stepS s x)
    have e2 := foldl_add l (stepS ⟨0, 0, 0, 0, 0, 0⟩ x)
    have e3 : sumS (x :: l) = l.foldl stepS (stepS ⟨0, 0, 0, 0, 0, 0⟩ x) := rfl
    rw [e3, e2]
    show l.foldl stepS (stepS s x) = _
    rw [e1]
    simp only [stepS, Sm6.mk.injEq]
    omega
theorem sumS_app (k l : List RecP) : sumS (k ++ l) = ⟨(sumS k).a + (sumS l).a, (sumS k).b + (sumS l).b, (sumS k).c + (sumS l).c, (sumS k).d + (sumS l).d, (sumS k).e + (sumS l).e, (sumS k).f + (sumS l).f⟩ := by
  show (k ++ l).foldl stepS _ = _
  rw [List.foldl_append]
  exact foldl_add l _
set_option maxHeartbeats 3200000 in
set_option maxRecDepth 100000 in
theorem tOf_any (a : Option Addr) (n cap : Nat) (xs : List RecP) (w : World) (h : HoldsRc w a n xs) (hn : n ≤ 1000) (hx : ∀ x ∈ xs, x.sn ≤ 1000 ∧ x.ln ≤ 1000) :
    Calls Try.prog 6 #[.slice a n cap] w fun e w' => (∃ s, sumS xs = s ∧ e = .returned (.agg #[.int .i64 s.a, .int .i64 s.b, .int .i64 s.c, .int .i64 s.d, .int .i64 s.e, .int .i64 s.f])) ∧ Below w.heap.size w w' := by
  have H := Lib.hid h
  have HN := Lib.hid h.len
  have IN := Lib.hid (fun j => sumS_in (xs.take j) (fun x hm => hx x (List.mem_of_mem_take hm)))
  have HX := Lib.hid hx
  obtain ⟨w1, hw1⟩ : ∃ w1, w.alloc (.cells #[.int .i64 0, .int .i64 0, .int .i64 0, .int .i64 0, .int .i64 0, .int .i64 0] 26) = w1 := ⟨_, rfl⟩
  obtain ⟨p, hp⟩ : ∃ p, w.heap.size = p := ⟨_, rfl⟩
  have HP1 := Lib.hid (show w1.heap[p]? = some (.cells #[.int .i64 0, .int .i64 0, .int .i64 0, .int .i64 0, .int .i64 0, .int .i64 0] 26 (0, 0)) from hp ▸ hw1 ▸ heap_alloc_new w _)
  have B1 := Lib.hid (show Below w.heap.size w w1 from hw1 ▸ below_one w _)
  obtain ⟨w2, hw2⟩ : ∃ w2, w1.alloc (.cells #[.int .i64 0, .int .i64 0, .int .i64 0, .int .i64 0, .int .i64 0, .int .i64 0] 26) = w2 := ⟨_, rfl⟩
  obtain ⟨q, hq⟩ : ∃ q, w1.heap.size = q := ⟨_, rfl⟩
  have HQ2 := Lib.hid (show w2.heap[q]? = some (.cells #[.int .i64 0, .int .i64 0, .int .i64 0, .int .i64 0, .int .i64 0, .int .i64 0] 26 (0, 0)) from hq ▸ hw2 ▸ heap_alloc_new w1 _)
  have b2 : Below w1.heap.size w1 w2 := hw2 ▸ below_one w1 _
  have HP2 := Lib.hid (keepT HP1.out b2)
  have B2 := Lib.hid (B1.out.trans (b2.mono B1.out.size))
  have PQ := Lib.hid (show p < q from by rw [← hq]; exact (Array.getElem?_eq_some_iff.1 HP1.out).1)
  have HPH := Lib.hid hp
  clear h hx b2 HP1 B1
  go_enter Try.func6, Try.ntmps6
  go_upto_region 1 with fail
  try rw [hw1]
  go_upto_region 2 with fail
  try rw [hw2]
  try simp only [hp, hq]
  clear hw1 hw2 hp hq
  go_wp2_with fail
  go_loopw [5, 8] (fun bv iv wr => ∃ (j : Nat) (s : Sm6), j ≤ n ∧ iv = .int .i64 j ∧ Hid (sumS (xs.take j) = s) ∧ Hid (wr.heap[q]? = some (.cells #[.int .i64 s.a, .int .i64 s.b, .int .i64 s.c, .int .i64 s.d, .int .i64 s.e, .int .i64 s.f] 26 (0, 0))) ∧ Hid (wr.heap[p]? = some (.cells #[.int .i64 0, .int .i64 0, .int .i64 0, .int .i64 0, .int .i64 0, .int .i64 0] 26 (0, 0))) ∧ Hid (Below w.heap.size w wr)) (fun _ iv _ => n - (intOf iv).toNat)
  case atStart => exact ⟨0, ⟨0, 0, 0, 0, 0, 0⟩, by omega, rfl, Lib.hid rfl, HQ2, HP2, B2⟩
  case round =>
    obtain ⟨j, s, hj, rfl, hS, hQ, hP, hB⟩ := hrel
    by_cases hlt : j < n
    · obtain ⟨rb, ro, rfl, hc⟩ := (H.out.below hB.out).at_ (by omega)
      have hx12 := hc j hlt
      have hs1 := sumS_next xs j (by rw [HN.out]; exact hlt)
      have hin := IN.out j
      have hbx := HX.out _ (getD_memR (show j < xs.length by rw [HN.out]; exact hlt))
      rw [hS.out] at hs1 hin
      have hjl : ((xs.take j).length : Int) ≤ 1000 := by rw [List.length_take]; omega
      obtain ⟨x, hxe⟩ : ∃ x, xs.getD j r0 = x := ⟨_, rfl⟩
      rw [hxe] at hx12 hs1 hbx
      obtain ⟨⟨a1, a2⟩, ⟨b1, b2⟩, ⟨c1, c2⟩, ⟨d1, d2⟩, ⟨e1, e2⟩, f1, f2⟩ := hin
      have wa : IntKind.i64.wrap (s.a + (x.sn : Int)) = s.a + (x.sn : Int) := by rw [IntKind.wrap_i64]; omega
      have wb : IntKind.i64.wrap (s.b + 1) = s.b + 1 := by rw [IntKind.wrap_i64]; omega
      have wc : IntKind.i64.wrap (s.c + (x.ln : Int)) = s.c + (x.ln : Int) := by rw [IntKind.wrap_i64]; omega
      have wd : IntKind.i64.wrap (s.d + 1) = s.d + 1 := by rw [IntKind.wrap_i64]; omega
      have we : IntKind.i64.wrap (s.e + 1) = s.e + 1 := by rw [IntKind.wrap_i64]; omega
      have wf : IntKind.i64.wrap (s.f + 1) = s.f + 1 := by rw [IntKind.wrap_i64]; omega
      obtain ⟨c0, c1', c2', c3, c4, c5, c6, c7, c8, c9, c10, c11⟩ := hx12
      have i1 : (0 : Int) ≤ (j : Int) := by omega
      have i2 : (j : Int) < (n : Int) := by omega
      have BX := Lib.hid (below_one wr (.cells #[.int .i64 x.kd, .int .i64 x.nd, .int .i64 x.at_, .int .i64 x.ex, .string x.qt, .int .i64 x.qk, .int .i64 x.qn, .int .i64 x.vd, .int .i64 x.id, .slice x.sa x.sn x.sc, .int .i64 x.got, .slice x.la x.ln x.lc] 38))
      have SX := Lib.hid (recIn_new wr x wr.heap.size 38 (0, 0) rfl)
      have HS1 := Lib.hid hs1
      have B3 := Lib.hid (hB.out.trans (BX.out.mono hB.out.size))
      have HQ3 := Lib.hid (keepT hQ.out BX.out)
      have HP3 := Lib.hid (keepT hP.out BX.out)
      have QW := Lib.hid (show q < wr.heap.size from (Array.getElem?_eq_some_iff.1 hQ.out).1)
      clear hc hxe hs1 hbx a1 a2 b1 b2 c1 c2 d1 d2 e1 e2 f1 f2 hjl
      go_upto_region 5 with fail
      clear c0 c1' c2' c3 c4 c5 c6 c7 c8 c9 c10 c11
      generalize wr.alloc (.cells #[.int .i64 x.kd, .int .i64 x.nd, .int .i64 x.at_, .int .i64 x.ex, .string x.qt, .int .i64 x.qk, .int .i64 x.qn, .int .i64 x.vd, .int .i64 x.id, .slice x.sa x.sn x.sc, .int .i64 x.got, .slice x.la x.ln x.lc] 38) = w3 at *
      generalize wr.heap.size = u at *
      obtain ⟨-, -, -, -, -, -, -, y7, -, y9, y10, y11⟩ := SX.out
      simp only [Nat.zero_add] at y7 y9 y10 y11
      have z0 := cellT (i := 0) HQ3.out rfl
      have z1 := cellT (i := 1) HQ3.out rfl
      have z2 := cellT (i := 2) HQ3.out rfl
      have z3 := cellT (i := 3) HQ3.out rfl
      have z4 := cellT (i := 4) HQ3.out rfl
      have z5 := cellT (i := 5) HQ3.out rfl
      have k0 := freeT (i := 0) HQ3.out
      have k1 := freeT (i := 1) HQ3.out
      have k2 := freeT (i := 2) HQ3.out
      have k3 := freeT (i := 3) HQ3.out
      have k4 := freeT (i := 4) HQ3.out
      have k5 := freeT (i := 5) HQ3.out
      have FIN := Lib.hid (show ∀ (wz : World) (t : Sm6), t = stepS s x → wz.heap[q]? = some (.cells #[.int .i64 t.a, .int .i64 t.b, .int .i64 t.c, .int .i64 t.d, .int .i64 t.e, .int .i64 t.f] 26 (0, 0)) → Turn (fun k => k = q) w3 wz → Hid (sumS (xs.take (j + 1)) = t) ∧ Hid (wz.heap[q]? = some (.cells #[.int .i64 t.a, .int .i64 t.b, .int .i64 t.c, .int .i64 t.d, .int .i64 t.e, .int .i64 t.f] 26 (0, 0))) ∧ Hid (wz.heap[p]? = some (.cells #[.int .i64 0, .int .i64 0, .int .i64 0, .int .i64 0, .int .i64 0, .int .i64 0] 26 (0, 0))) ∧ Hid (Below w.heap.size w wz) from fun wz t ht hq' hT =>
        ⟨Lib.hid (HS1.out.trans ht.symm), Lib.hid hq', Lib.hid ((hT.block p (Array.getElem?_eq_some_iff.1 HP3.out).1 (by have := PQ.out; omega)).trans HP3.out), Lib.hid (B3.out.trans (hT.below (fun k hk => by rw [hk, HPH.out]; have := PQ.out; omega) B3.out.size))⟩)
      clear HS1 B3 HP3
      by_cases hg : 0 ≤ x.got
      · have d1 : decide (x.got ≥ 0) = true := decide_eq_true hg
        have d1' : decide (0 ≤ x.got) = true := decide_eq_true hg
        have og : one01 (0 ≤ x.got) = 1 := if_pos hg
        by_cases h3 : x.vd = 3
        · rw [h3] at y7
          have o3 : one01 (x.vd = 3) = 1 := if_pos h3
          have o2 : one01 (x.vd = 2) = 0 := if_neg (by omega)
          have o1 : one01 (x.vd = 1) = 0 := if_neg (by omega)
          have FF := Lib.hid (And.intro og (And.intro o3 (And.intro o2 o1)))
          clear og o3 o2 o1 h3 hg
          go_wp2_with fail
          go_roundw
          case rel => exact ⟨j + 1, ⟨s.a + (x.sn : Int), s.b + 1, s.c + (x.ln : Int), s.d + 1, s.e, s.f⟩, by omega, by go_num, FIN.out _ _ (by obtain ⟨g1, g2, g3, g4⟩ := FF.out; simp only [stepS, g1, g2, g3, g4, Int.add_zero]) (setT (setT (setT (setT HQ3.out)))) (((((Turn.of_below (F := fun k => k = q) (Below.refl w3.heap.size w3)).trans (Turn.setCell rfl)).trans (Turn.setCell rfl)).trans (Turn.setCell rfl)).trans (Turn.setCell rfl))⟩
          case measure => simp [intOf]; omega
        by_cases h2 : x.vd = 2
        · rw [h2] at y7
          have o3 : one01 (x.vd = 3) = 0 := if_neg (by omega)
          have o2 : one01 (x.vd = 2) = 1 := if_pos h2
          have o1 : one01 (x.vd = 1) = 0 := if_neg (by omega)
          have FF := Lib.hid (And.intro og (And.intro o3 (And.intro o2 o1)))
          clear og o3 o2 o1 h2 hg
          go_wp2_with fail
          go_roundw
          case rel => exact ⟨j + 1, ⟨s.a + (x.sn : Int), s.b + 1, s.c + (x.ln : Int), s.d, s.e + 1, s.f⟩, by omega, by go_num, FIN.out _ _ (by obtain ⟨g1, g2, g3, g4⟩ := FF.out; simp only [stepS, g1, g2, g3, g4, Int.add_zero]) (setT (setT (setT (setT HQ3.out)))) (((((Turn.of_below (F := fun k => k = q) (Below.refl w3.heap.size w3)).trans (Turn.setCell rfl)).trans (Turn.setCell rfl)).trans (Turn.setCell rfl)).trans (Turn.setCell rfl))⟩
          case measure => simp [intOf]; omega
        by_cases h1 : x.vd = 1
        · rw [h1] at y7
          have o3 : one01 (x.vd = 3) = 0 := if_neg (by omega)
          have o2 : one01 (x.vd = 2) = 0 := if_neg (by omega)
          have o1 : one01 (x.vd = 1) = 1 := if_pos h1
          have FF := Lib.hid (And.intro og (And.intro o3 (And.intro o2 o1)))
          clear og o3 o2 o1 h1 hg
          go_wp2_with fail
          go_roundw
          case rel => exact ⟨j + 1, ⟨s.a + (x.sn : Int), s.b + 1, s.c + (x.ln : Int), s.d, s.e, s.f + 1⟩, by omega, by go_num, FIN.out _ _ (by obtain ⟨g1, g2, g3, g4⟩ := FF.out; simp only [stepS, g1, g2, g3, g4, Int.add_zero]) (setT (setT (setT (setT HQ3.out)))) (((((Turn.of_below (F := fun k => k = q) (Below.refl w3.heap.size w3)).trans (Turn.setCell rfl)).trans (Turn.setCell rfl)).trans (Turn.setCell rfl)).trans (Turn.setCell rfl))⟩
          case measure => simp [intOf]; omega
        have n3 : (x.vd == 3) = false := by rw [beq_eq_false_iff_ne]; exact h3
        have n2 : (x.vd == 2) = false := by rw [beq_eq_false_iff_ne]; exact h2
        have n1 : (x.vd == 1) = false := by rw [beq_eq_false_iff_ne]; exact h1
        have o3 : one01 (x.vd = 3) = 0 := if_neg h3
        have o2 : one01 (x.vd = 2) = 0 := if_neg h2
        have o1 : one01 (x.vd = 1) = 0 := if_neg h1
        have FF := Lib.hid (And.intro og (And.intro o3 (And.intro o2 o1)))
        clear og o3 o2 o1 h3 h2 h1 hg
        go_wp2_with fail
        go_roundw
        case rel => exact ⟨j + 1, ⟨s.a + (x.sn : Int), s.b + 1, s.c + (x.ln : Int), s.d, s.e, s.f⟩, by omega, by go_num, FIN.out _ _ (by obtain ⟨g1, g2, g3, g4⟩ := FF.out; simp only [stepS, g1, g2, g3, g4, Int.add_zero]) (setT (setT (setT HQ3.out))) ((((Turn.of_below (F := fun k => k = q) (Below.refl w3.heap.size w3)).trans (Turn.setCell rfl)).trans (Turn.setCell rfl)).trans (Turn.setCell rfl))⟩
        case measure => simp [intOf]; omega
      · have d1 : decide (x.got ≥ 0) = false := decide_eq_false hg
        have d1' : decide (0 ≤ x.got) = false := decide_eq_false hg
        have og : one01 (0 ≤ x.got) = 0 := if_neg hg
        by_cases h3 : x.vd = 3
        · rw [h3] at y7
          have o3 : one01 (x.vd = 3) = 1 := if_pos h3
          have o2 : one01 (x.vd = 2) = 0 := if_neg (by omega)
          have o1 : one01 (x.vd = 1) = 0 := if_neg (by omega)
          have FF := Lib.hid (And.intro og (And.intro o3 (And.intro o2 o1)))
          clear og o3 o2 o1 h3 hg
          go_wp2_with fail
          go_roundw
          case rel => exact ⟨j + 1, ⟨s.a + (x.sn : Int), s.b, s.c + (x.ln : Int), s.d + 1, s.e, s.f⟩, by omega, by go_num, FIN.out _ _ (by obtain ⟨g1, g2, g3, g4⟩ := FF.out; simp only [stepS, g1, g2, g3, g4, Int.add_zero]) (setT (setT (setT HQ3.out))) ((((Turn.of_below (F := fun k => k = q) (Below.refl w3.heap.size w3)).trans (Turn.setCell rfl)).trans (Turn.setCell rfl)).trans (Turn.setCell rfl))⟩
          case measure => simp [intOf]; omega
        by_cases h2 : x.vd = 2
        · rw [h2] at y7
          have o3 : one01 (x.vd = 3) = 0 := if_neg (by omega)
          have o2 : one01 (x.vd = 2) = 1 := if_pos h2
          have o1 : one01 (x.vd = 1) = 0 := if_neg (by omega)
          have FF := Lib.hid (And.intro og (And.intro o3 (And.intro o2 o1)))
          clear og o3 o2 o1 h2 hg
          go_wp2_with fail
          go_roundw
          case rel => exact ⟨j + 1, ⟨s.a + (x.sn : Int), s.b, s.c + (x.ln : Int), s.d, s.e + 1, s.f⟩, by omega, by go_num, FIN.out _ _ (by obtain ⟨g1, g2, g3, g4⟩ := FF.out; simp only [stepS, g1, g2, g3, g4, Int.add_zero]) (setT (setT (setT HQ3.out))) ((((Turn.of_below (F := fun k => k = q) (Below.refl w3.heap.size w3)).trans (Turn.setCell rfl)).trans (Turn.setCell rfl)).trans (Turn.setCell rfl))⟩
          case measure => simp [intOf]; omega
        by_cases h1 : x.vd = 1
        · rw [h1] at y7
          have o3 : one01 (x.vd = 3) = 0 := if_neg (by omega)
          have o2 : one01 (x.vd = 2) = 0 := if_neg (by omega)
          have o1 : one01 (x.vd = 1) = 1 := if_pos h1
          have FF := Lib.hid (And.intro og (And.intro o3 (And.intro o2 o1)))
          clear og o3 o2 o1 h1 hg
          go_wp2_with fail
          go_roundw
          case rel => exact ⟨j + 1, ⟨s.a + (x.sn : Int), s.b, s.c + (x.ln : Int), s.d, s.e, s.f + 1⟩, by omega, by go_num, FIN.out _ _ (by obtain ⟨g1, g2, g3, g4⟩ := FF.out; simp only [stepS, g1, g2, g3, g4, Int.add_zero]) (setT (setT (setT HQ3.out))) ((((Turn.of_below (F := fun k => k = q) (Below.refl w3.heap.size w3)).trans (Turn.setCell rfl)).trans (Turn.setCell rfl)).trans (Turn.setCell rfl))⟩
          case measure => simp [intOf]; omega
        have n3 : (x.vd == 3) = false := by rw [beq_eq_false_iff_ne]; exact h3
        have n2 : (x.vd == 2) = false := by rw [beq_eq_false_iff_ne]; exact h2
        have n1 : (x.vd == 1) = false := by rw [beq_eq_false_iff_ne]; exact h1
        have o3 : one01 (x.vd = 3) = 0 := if_neg h3
        have o2 : one01 (x.vd = 2) = 0 := if_neg h2
        have o1 : one01 (x.vd = 1) = 0 := if_neg h1
        have FF := Lib.hid (And.intro og (And.intro o3 (And.intro o2 o1)))
        clear og o3 o2 o1 h3 h2 h1 hg
        go_wp2_with fail
        go_roundw
        case rel => exact ⟨j + 1, ⟨s.a + (x.sn : Int), s.b, s.c + (x.ln : Int), s.d, s.e, s.f⟩, by omega, by go_num, FIN.out _ _ (by obtain ⟨g1, g2, g3, g4⟩ := FF.out; simp only [stepS, g1, g2, g3, g4, Int.add_zero]) (setT (setT HQ3.out)) (((Turn.of_below (F := fun k => k = q) (Below.refl w3.heap.size w3)).trans (Turn.setCell rfl)).trans (Turn.setCell rfl))⟩
        case measure => simp [intOf]; omega
    · obtain rfl : j = n := by omega
      have e1 : xs.take j = xs := List.take_of_length_le (by rw [HN.out]; exact Nat.le_refl _)
      have HS := Lib.hid (show sumS xs = s from by rw [← e1]; exact hS.out)
      clear e1
      go_wp2_with (first | (refine wpList_load_row rfl 26 (.tmp 3) rfl q rfl 26 #[.int .i64 s.a, .int .i64 s.b, .int .i64 s.c, .int .i64 s.d, .int .i64 s.e, .int .i64 s.f] (0, 0) _ hQ.out Try.underlying26 rfl (by kernel_rfl) ?_) | (refine wpList_store_row rfl 26 (.tmp 2) (.tmp 54) rfl p #[.int .i64 s.a, .int .i64 s.b, .int .i64 s.c, .int .i64 s.d, .int .i64 s.e, .int .i64 s.f] rfl rfl 26 #[.int .i64 0, .int .i64 0, .int .i64 0, .int .i64 0, .int .i64 0, .int .i64 0] hP.out (by kernel_rfl) rfl (by simp [Value.oneCell']) ?_) | fail)
      (try simp only [Exit.inBlock, Exit.then])
      refine bodyPost_ret (results_cell_row rfl _ _ p 26 #[.int .i64 s.a, .int .i64 s.b, .int .i64 s.c, .int .i64 s.d, .int .i64 s.e, .int .i64 s.f] (0, 0) _ rfl (setRow_heap _ p _ _ _ _ hP.out) Try.underlying26 rfl (by kernel_rfl)) rfl ?_
      exact ⟨⟨s, HS.out, rfl⟩, below_setRow hB.out (by rw [HPH.out]; exact Nat.le_refl _) _⟩
end Go.Proofs.Ythfoilnofljflaa
