/- RankSorts: any items are put in the document's order -/
import Derived.Test.YtioegheehodndaaPkB
import Derived.Test.YtioegheehodndaaPkC
namespace Go.Proofs.Ytioegheehodndaa
open Go.RowKit
set_option linter.unusedVariables false
set_option maxRecDepth 20000
def RetJ (w : World) (n : Nat) (ys : List KV) (e : Ending) (w' : World) : Prop := ∃ a c, e = .returned (.slice a n c) ∧ w'.ownsRow w.heap.size 37 2 (.slice a n c) n (keysV ys) ∧ Below w.heap.size w w'
theorem RetI.j {w w' : World} {ys : List KV} {e : Ending} {n : Nat} (h : RetI w ys e w') (hn : ys.length = n) : RetJ w n ys e w' := by subst hn; exact h
theorem rankSort_lit (a : Option Addr) (n cap : Nat) (l ys : List KV) (w : World) (hh : HoldsK w a n l) (hnil : a = none → n = 0 ∧ cap = 0) (hn : n ≤ 50000) (hy : sortK l = ys) :
    Calls Try.prog 25 #[.slice a n cap] w (RetJ w n ys) := by
  subst hy; exact (rankSort_any a n cap l w hh hnil hn).mono fun _ _ h => h.j (by rw [sortK_length]; exact hh.len)
theorem rsort_lit (a : Option Addr) (n cap : Nat) (l ys : List KV) (w : World) (hh : HoldsK w a n l) (hn : n ≤ 50000) (hl : ∀ k ∈ l, k.2.size ≤ 1048576) (hy : sortK l = ys) :
    Calls Try.prog 26 #[.slice a n cap] w (RetJ w n ys) := by
  subst hy; exact (rsortI_any a n cap l w hh hn hl).mono fun _ _ h => h.j (by rw [sortK_length]; exact hh.len)
set_option maxRecDepth 100000 in
set_option maxHeartbeats 6400000 in
theorem rankSorts_any (a : Option Addr) (n ca : Nat) (ks : List KV) (x y : KV) (w : World) (hh : HoldsK w a n ks) (hnil : a = none → n = 0 ∧ ca = 0) (hn : n ≤ 9223372036854775807) (hs : ∀ k ∈ ks, k.2.size ≤ 9223372036854775807) (hx : x.2.size ≤ 9223372036854775807) (hy : y.2.size ≤ 9223372036854775807) :
    Calls Try.prog 4 #[.slice a n ca, keyV x, keyV y] w fun e w' => e = .returned (.bool true) ∧ Below w.heap.size w w' := by
  have lks := hh.len
  obtain ⟨x1, x2⟩ := x
  obtain ⟨y1, y2⟩ := y
  simp only at hx hy
  have BB := Lib.hid (((Below.refl w.heap.size w).alloc (Nat.le_refl _) (.cells #[.int .i64 x1, .string x2] 37)).alloc (by simp) (.cells #[.int .i64 y1, .string y2] 37))
  have HX := Lib.hid (hh.below (w' := (w.alloc (.cells #[.int .i64 x1, .string x2] 37)).alloc (.cells #[.int .i64 y1, .string y2] 37)) BB.out)
  have GK := Lib.hid (fun w (h : HoldsK w a n ks) => greatK_any a n ca ks w h hn hs)
  obtain ⟨g, hg⟩ : ∃ g, greatKB ks = g := ⟨_, rfl⟩
  rw [hg] at GK
  have e0 : ((w.alloc (.cells #[.int .i64 x1, .string x2] 37)).alloc (.cells #[.int .i64 y1, .string y2] 37)).cell? ⟨w.heap.size, 0, none⟩ = some (.int .i64 x1) := by simp
  have e1 : ((w.alloc (.cells #[.int .i64 x1, .string x2] 37)).alloc (.cells #[.int .i64 y1, .string y2] 37)).cell? ⟨w.heap.size, 1, none⟩ = some (.string x2) := by simp
  have e2 : ((w.alloc (.cells #[.int .i64 x1, .string x2] 37)).alloc (.cells #[.int .i64 y1, .string y2] 37)).cell? ⟨w.heap.size + 1, 0, none⟩ = some (.int .i64 y1) := by simp
  have e3 : ((w.alloc (.cells #[.int .i64 x1, .string x2] 37)).alloc (.cells #[.int .i64 y1, .string y2] 37)).cell? ⟨w.heap.size + 1, 1, none⟩ = some (.string y2) := by simp
  clear hh hs
  cases g with
  | true =>
    clear hg
    unfold keyV
    simp only
    go_enter Try.func4, Try.ntmps4
    go_wp2_with fail
    refine (GK.out _ HX.out).mono ?_
    rintro e w' ⟨rfl, rfl⟩
    go_wp2_with fail
    refine (awake_any _).mono ?_
    rintro e w9 ⟨rfl, hb9⟩
    go_wp2_with fail
    go_ret
    exact ⟨rfl, BB.out.trans (hb9.mono BB.out.size)⟩
  | false =>
    obtain ⟨h80, hsm⟩ := greatK_no_iff.1 hg
    have SM := Lib.hid hsm
    clear hg hsm
    by_cases hxy : x2.size ≤ 100 ∧ y2.size ≤ 100
    case neg =>
      have h4 : 100 < x2.size ∨ (x2.size ≤ 100 ∧ 100 < y2.size) := by omega
      clear hxy
      unfold keyV
      simp only
      rcases h4 with h4 | ⟨h4, h5⟩
      all_goals
        go_enter Try.func4, Try.ntmps4
        go_wp2_with fail
        refine (GK.out _ HX.out).mono ?_
        rintro e w' ⟨rfl, rfl⟩
        go_wp2_with fail
        refine (awake_any _).mono ?_
        rintro e w9 ⟨rfl, hb9⟩
        go_wp2_with fail
        go_ret
        exact ⟨rfl, BB.out.trans (hb9.mono BB.out.size)⟩
    obtain ⟨hx100, hy100⟩ := hxy
    obtain ⟨c, hc⟩ : ∃ c, lessK (x1, x2) (y1, y2) = c := ⟨_, rfl⟩
    have CL1 := Lib.hid (fun w => iless_lit (x1, x2) (y1, y2) c w hc)
    have CL2 := Lib.hid (fun w => rlessI_lit (x1, x2) (y1, y2) c w (by simp only; omega) (by simp only; omega) hc)
    unfold keyV at CL1 CL2
    simp only at CL1 CL2
    have cc : (c == c) = true := by simp
    obtain ⟨ys, hys⟩ : ∃ ys, sortK ks = ys := ⟨_, rfl⟩
    have YS := Lib.hid hys
    have NIL := Lib.hid hnil
    have QK := Lib.hid (show ∀ k ∈ ks, k.2.size ≤ 1048576 from fun k hk => by have := SM.out k hk; omega)
    have LKS := Lib.hid lks
    have hn80 : n ≤ 80 := by omega
    clear hc hys hnil lks
    unfold keyV
    simp only
    go_enter Try.func4, Try.ntmps4
    go_wp2_with fail
    refine (GK.out _ HX.out).mono ?_
    rintro e w' ⟨rfl, rfl⟩
    go_wp2_with fail
    generalize ((w.alloc (.cells #[.int .i64 x1, .string x2] 37)).alloc (.cells #[.int .i64 y1, .string y2] 37)) = w1 at *
    obtain ⟨q, hq⟩ : ∃ q, w.heap.size + 1 = q := ⟨_, rfl⟩
    rw [hq] at e2 e3
    simp only [hq]
    have HB := Lib.hid (show Box4q w1 w.heap.size q (.int .i64 x1) (.string x2) (.int .i64 y1) (.string y2) w1 from ⟨Below.refl _ _, e0, e1, e2, e3⟩)
    clear e0 e1 e2 e3 hq
    refine (lendItems_any a n ca ks _ HX.out NIL.out (by omega)).mono ?_
    rintro e w3 ⟨rfl, hb3, o3⟩
    have RR := Lib.hid o3
    have HX3 := Lib.hid (HX.out.below hb3)
    have HX3' := Lib.hid (HX.out.below hb3)
    have B3 := Lib.hid (BB.out.trans (hb3.mono BB.out.size))
    have IN := Lib.hid (RR.out.holds LKS.out)
    have HB3 := Lib.hid (box4q_carry HB.out hb3)
    clear hb3 o3 HX HB BB
    go_wp2_with fail
    refine (rankSort_lit _ n (n + 3) ks ys _ IN.out (some_none _) (by omega) YS.out).mono ?_
    rintro e w4 ⟨a4, c4, rfl, hown4, hb4⟩
    have HX4 := Lib.hid (HX3.out.below hb4)
    have RR4 := Lib.hid (RR.out.below hb4)
    have OA := Lib.hid hown4
    have B34 := Lib.hid hb4
    have HB4 := Lib.hid (box4q_carry HB3.out hb4)
    have HA := Lib.hid (HoldsK.own hown4)
    obtain ⟨-, e0, e1, e2, e3⟩ := HB4.out
    have T := Lib.hid (show Box4q w4 w.heap.size q (.int .i64 x1) (.string x2) (.int .i64 y1) (.string y2) w4 from ⟨Below.refl _ _, e0, e1, e2, e3⟩)
    clear hown4 hb4 HX3 HB3 IN e0 e1 e2 e3
    go_upto_region 5 with fail
    go_region_held3 (fun w' => Below w4.heap.size w4 w' ∧ w'.cell? ⟨w.heap.size, 0, none⟩ = some (.int .i64 x1) ∧ w'.cell? ⟨w.heap.size, 1, none⟩ = some (.string x2) ∧ w'.cell? ⟨q, 0, none⟩ = some (.int .i64 y1) ∧ w'.cell? ⟨q, 1, none⟩ = some (.string y2))
      (first | assumption | exact box4q_carry T.out (Below.refl _ _).drew | exact box4q_carry (by assumption) (by assumption))
      (first
        | (go_at_call 26; (with_reducible refine (rsort_lit a n ca ks ys _ (HX4.out.below (And.left (by assumption))) (by omega) QK.out YS.out).mono ?_); rintro e w' ⟨a5, c5, rfl, hown5, hb⟩)
        | (go_at_call 18; (with_reducible refine (sameItems_yes a4 _ n c4 _ ys _ (HA.out.below (And.left (by assumption))) (HoldsK.own (by assumption)) (by omega)).mono ?_); rintro e w' ⟨rfl, hb⟩)
        | (go_at_call 27; (with_reducible refine (keptItems_yes _ _ n ks a ca _ LKS.out (RR4.out.below (And.left (by assumption))) (HX4.out.below (And.left (by assumption))) (by omega)).mono ?_); rintro e w' ⟨rfl, hb⟩)
        | (go_at_call 28; (with_reducible refine (CL1.out _).mono ?_); rintro e w' ⟨rfl, hb⟩)
        | (go_at_call 29; (with_reducible refine (CL2.out _).mono ?_); rintro e w' ⟨rfl, hb⟩))
    rename_i T5
    obtain ⟨hb5, -⟩ := T5
    have B45 := Lib.hid hb5
    have O5 := Lib.hid (owns_below OA.out hb5)
    have HX5 := Lib.hid (HX4.out.below hb5)
    have RR5 := Lib.hid (RR4.out.below hb5)
    clear hb5
    go_wp2_with fail
    refine (overItems_any w3.heap.size a4 n c4 _ _ O5.out (Nat.le_trans B34.out.size B45.out.size) (by omega)).mono ?_
    rintro e w6 ⟨rfl, hb6, -⟩
    have B6 := Lib.hid ((B34.out.trans (B45.out.mono B34.out.size)).trans hb6)
    have RR6 := Lib.hid (RR.out.below B6.out)
    clear hb6
    have HX6 := Lib.hid (HX3'.out.below B6.out)
    go_wp2_with fail
    refine (keptItems_yes _ _ n ks a ca _ LKS.out RR6.out HX6.out (by omega)).mono ?_
    rintro e w7 ⟨rfl, hb7⟩
    have B7 := Lib.hid ((B3.out.trans (B6.out.mono B3.out.size)).trans (hb7.mono (Nat.le_trans B3.out.size B6.out.size)))
    clear hb7
    go_wp2_with fail
    refine (awake_any _).mono ?_
    rintro e w8 ⟨rfl, hb8⟩
    go_wp2_with fail
    go_ret
    exact ⟨rfl, B7.out.trans (hb8.mono B7.out.size)⟩
open Go.ChangeShapes Go.WideShapes Go.ChangeAt in
theorem rankSorts_walk {H : Type} {enc : TypeId × Value → H} (W : World) (base : Nat) (v0 v1 v2 : Value) (d0 d1 d2 : DataW H) (p0 p1 p2 : List MemPlace)
    (h0 : DataW.Trod enc Try.prog W 0 (fun _ => true) true 28 v0 d0 p0) (h1 : DataW.Trod enc Try.prog W 0 (fun _ => true) true 37 v1 d1 p1) (h2 : DataW.Trod enc Try.prog W 0 (fun _ => true) true 37 v2 d2 p2)
    (o0 : Value.okWide Try.prog W .any base 28 v0) (o1 : Value.okWide Try.prog W .any base 37 v1) (o2 : Value.okWide Try.prog W .any base 37 v2) :
    Calls Try.prog 4 #[v0, v1, v2] W fun e w' => e = .returned (.bool true) ∧ RowKit.Below W.heap.size W w' := by
  obtain ⟨a0, n0, c0, k0, rfl, x0, y0, z0, b0, s0⟩ := open_pairs_arg Try.underlying28 Try.underlying37 (by kernel_rfl) rfl rfl ⟨rfl, rfl⟩ ⟨rfl, rfl⟩ o0 h0
  obtain ⟨k1, s1, rfl⟩ := open_pair Try.underlying37 (by kernel_rfl) rfl rfl ⟨rfl, rfl⟩ ⟨rfl, rfl⟩ o1 h1
  obtain ⟨k2, s2, rfl⟩ := open_pair Try.underlying37 (by kernel_rfl) rfl rfl ⟨rfl, rfl⟩ ⟨rfl, rfl⟩ o2 h2
  exact rankSorts_any a0 n0 c0 k0 k1 k2 W x0 y0 b0 (fun k hk => (s0 k hk).2) s1.2 s2.2
end Go.Proofs.Ytioegheehodndaa
