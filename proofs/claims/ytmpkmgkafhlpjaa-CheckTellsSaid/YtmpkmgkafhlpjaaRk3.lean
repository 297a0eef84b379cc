/- the document's order of items: Less, Put, Sort -/
import Derived.Test.YtmpkmgkafhlpjaaRk0
import Derived.Test.YtmpkmgkafhlpjaaKf0
import Derived.Test.YtmpkmgkafhlpjaaCp2
import Derived.Deep.RegionHeld3
import Derived.Deep.DeepCutAuto
namespace Go.Proofs.Ytmpkmgkafhlpjaa
open Go.RowKit
set_option linter.unusedVariables false
set_option maxRecDepth 20000
theorem rcompare_lit (x y : Tx) (v : Int) (w : World) (hx : x.size ≤ 1048576) (hy : y.size ≤ 1048576) (hv : cmpS x y = v) :
    Calls Try.prog 64 #[.string x, .string y] w fun e w' => e = .returned (.int .i64 v) ∧ Below w.heap.size w w' := by subst hv; exact rcompare_any x y w hx hy
theorem rlessI_any (a b : KV) (w : World) (ha : a.2.size ≤ 1048576) (hb : b.2.size ≤ 1048576) :
    Calls Try.prog 46 #[keyV a, keyV b] w fun e w' => e = .returned (.bool (lessK a b)) ∧ Below w.heap.size w w' := by
  obtain ⟨c, hc⟩ : ∃ c, lessK a b = c := ⟨_, rfl⟩
  rw [hc]
  have hc2 : c = true ↔ (a.1 < b.1 ∨ (a.1 = b.1 ∧ cmpS a.2 b.2 < 0)) := by rw [← ordK_lt, ← hc]; exact decide_eq_true_iff
  clear hc
  obtain ⟨a1, a2⟩ := a
  obtain ⟨b1, b2⟩ := b
  simp only at hc2 ha hb
  unfold keyV
  simp only
  have BB := Lib.hid ((Below.refl w.heap.size w).alloc (Nat.le_refl _) (.cells #[.int .i64 a1, .string a2] 36) |>.alloc (by simp) (.cells #[.int .i64 b1, .string b2] 36))
  rcases Int.lt_trichotomy a1 b1 with h | h | h
  · obtain rfl : c = true := hc2.2 (Or.inl h)
    have g1 : decide (a1 < b1) = true := decide_eq_true h
    clear hc2
    go_enter Try.func46, Try.ntmps46
    go_wp2_with fail
    go_ret
    exact ⟨rfl, BB.out⟩
  · subst h
    have g1 : decide (a1 < a1) = false := by simp
    have g2 : (a1 == a1) = true := by simp
    obtain ⟨v, hv⟩ : ∃ v, cmpS a2 b2 = v := ⟨_, rfl⟩
    rw [hv] at hc2
    have HV := Lib.hid hv
    have hcv : c = decide (v < 0) := by
      cases c
      · symm; rw [decide_eq_false_iff_not]; intro h; exact absurd (hc2.2 (Or.inr ⟨rfl, h⟩)) (by simp)
      · symm; rw [decide_eq_true_iff]; rcases hc2.1 rfl with h | h; omega; exact h.2
    subst hcv
    clear hc2 hv
    go_enter Try.func46, Try.ntmps46
    go_wp2_with fail
    refine (rcompare_lit a2 b2 v _ ha hb HV.out).mono ?_
    rintro e w' ⟨rfl, hb2⟩
    go_wp2_with fail
    go_ret
    exact ⟨rfl, BB.out.trans (hb2.mono BB.out.size)⟩
  · obtain rfl : c = false := by
      cases c
      · rfl
      · rcases hc2.1 rfl with h2 | h2 <;> omega
    have g1 : decide (a1 < b1) = false := by rw [decide_eq_false_iff_not]; omega
    have g2 : (a1 == b1) = false := by rw [beq_eq_false_iff_ne]; omega
    clear hc2
    go_enter Try.func46, Try.ntmps46
    go_wp2_with fail
    go_ret
    exact ⟨rfl, BB.out⟩
theorem rlessI_lit (a b : KV) (c : Bool) (w : World) (ha : a.2.size ≤ 1048576) (hb : b.2.size ≤ 1048576) (hc : lessK a b = c) :
    Calls Try.prog 46 #[keyV a, keyV b] w fun e w' => e = .returned (.bool c) ∧ Below w.heap.size w w' := by subst hc; exact rlessI_any a b w ha hb
theorem item_info : (Try.prog.info? 36).map (fun i => (i.zero, i.size, i.bytes)) = some (some (.agg #[.int .i64 0, .string ⟨#[]⟩]), 2, 24) := by kernel_rfl
/-- a new slice of these items -/
def RetI (w : World) (ys : List KV) (e : Ending) (w' : World) : Prop := ∃ a c, e = .returned (.slice a ys.length c) ∧ w'.ownsRow w.heap.size 36 2 (.slice a ys.length c) ys.length (keysV ys) ∧ Below w.heap.size w w'
theorem retI_own {w w' : World} {a : Option Addr} {c n : Nat} {ys zs : List KV} (h : ys = zs) (hn : ys.length = n) (hh : w'.ownsRow w.heap.size 36 2 (.slice a n c) n (keysV ys)) (hb : Below w.heap.size w w') (v : Value) (hv : v = .slice a n c) : RetI w zs (.returned v) w' := by
  subst h hn hv; exact ⟨a, c, rfl, hh, hb⟩
open Go.ChangeShapes Go.WideShapes Go.ChangeAt in
theorem two_new (w : World) (u v : Value) (e : TypeId) (fr : Nat × Nat) : ∀ ad, (some ⟨w.heap.size, 0, none⟩ : Option Addr) = some ad → ∀ j x, [u, v][j]? = some x → (w.alloc (.cells #[u, v] e fr)).cell? (ad.add j) = some x := by
  intro ad had j x hx
  obtain rfl := Option.some.inj had
  match j, hx with
  | 0, hx =>
    simp at hx; subst hx
    rw [add_plain, World.cell?_alloc_mark]; rfl
  | 1, hx =>
    simp at hx; subst hx
    rw [add_plain, World.cell?_alloc_mark]; rfl
theorem two_one (z : Int) (s : Tx) : ∀ u ∈ [Value.int .i64 z, .string s], u.oneCell' = true := by simp [Value.oneCell']
theorem keysV_snoc (ks : List KV) (k : KV) : keysV (ks ++ [k]) = keysV ks ++ [.int .i64 k.1, .string k.2] := by rw [keysV_app]; rfl
theorem drop_getD (l : List KV) (i : Nat) (h : i < l.length) : l.drop i = l.getD i k0 :: l.drop (i + 1) := by
  rw [List.drop_eq_getElem_cons h]; simp [List.getD_eq_getElem?_getD, h]
theorem _root_.Go.World.ownsRow.mono' {w : World} {base B : Nat} {e : TypeId} {size : Nat} {v : Value} {n : Nat} {xs : List Value} (h : w.ownsRow base e size v n xs) (hB : B ≤ base) : w.ownsRow B e size v n xs := by
  obtain ⟨h1, h2⟩ := h
  refine ⟨h1, ?_⟩
  rcases h2 with ⟨h2, h3⟩ | ⟨g, cap, cur, h2, h3, h4⟩
  · exact Or.inl ⟨h2, h3⟩
  · exact Or.inr ⟨g, cap, cur, h2, Nat.le_trans hB h3, h4⟩
/-- what the document's Put has so far -/
def PutInv (x : KV) (l : List KV) (i : Nat) (f : Bool) (P : List KV) : Prop :=
  (f = true ∧ P ++ l.drop i = putK x l) ∨ (f = false ∧ P = l.take i ∧ putK x l = l.take i ++ putK x (l.drop i))
theorem putInv_start (x : KV) (l : List KV) : PutInv x l 0 false [] := Or.inr ⟨rfl, rfl, by simp⟩
theorem putInv_true {x : KV} {l : List KV} {i : Nat} {P : List KV} (h : PutInv x l i true P) (hi : i < l.length) : PutInv x l (i + 1) true (P ++ [l.getD i k0]) := by
  rcases h with ⟨_, h⟩ | ⟨h, _⟩
  · rw [drop_getD l i hi] at h
    exact Or.inl ⟨rfl, by rw [← h]; simp⟩
  · cases h
theorem putInv_lt {x : KV} {l : List KV} {i : Nat} {P : List KV} (h : PutInv x l i false P) (hi : i < l.length) (hlt : ordK x (l.getD i k0) < 0) : PutInv x l (i + 1) true (P ++ [x] ++ [l.getD i k0]) := by
  rcases h with ⟨h, _⟩ | ⟨_, h, h2⟩
  · cases h
  · refine Or.inl ⟨rfl, ?_⟩
    rw [h2, drop_getD l i hi, h]
    simp only [putK, if_pos hlt]
    simp
theorem putInv_ge {x : KV} {l : List KV} {i : Nat} {P : List KV} (h : PutInv x l i false P) (hi : i < l.length) (hlt : ¬ ordK x (l.getD i k0) < 0) : PutInv x l (i + 1) false (P ++ [l.getD i k0]) := by
  rcases h with ⟨h, _⟩ | ⟨_, h, h2⟩
  · cases h
  · refine Or.inr ⟨rfl, by rw [h, take_succ_getD l k0 i hi], ?_⟩
    rw [h2, drop_getD l i hi, take_succ_getD l k0 i hi]
    simp only [putK, if_neg hlt]
    simp
theorem putInv_end {x : KV} {l : List KV} {f : Bool} {P : List KV} (h : PutInv x l l.length f P) : putK x l = if f = true then P else P ++ [x] := by
  rcases h with ⟨rfl, h⟩ | ⟨rfl, h, h2⟩
  · simpa using h.symm
  · rw [h2, h]; simp [putK]
def Box4r (w0 : World) (p b o : Nat) (v0 v1 v2 v3 : Value) (w : World) : Prop := Below w0.heap.size w0 w ∧ w.cell? ⟨p, 0, none⟩ = some v0 ∧ w.cell? ⟨p, 1, none⟩ = some v1 ∧ w.cell? ⟨b, o, none⟩ = some v2 ∧ w.cell? ⟨b, o + 1, none⟩ = some v3
theorem box4r_carry {w0 w w' : World} {p b o : Nat} {v0 v1 v2 v3 : Value} (h : Box4r w0 p b o v0 v1 v2 v3 w) (hb : Below w.heap.size w w') : Box4r w0 p b o v0 v1 v2 v3 w' :=
  ⟨h.1.trans (hb.mono h.1.size), by rw [hb.cell (p := ⟨p, 0, none⟩) (lt_of_cell h.2.1)]; exact h.2.1, by rw [hb.cell (p := ⟨p, 1, none⟩) (lt_of_cell h.2.1)]; exact h.2.2.1, by rw [hb.cell (p := ⟨b, o, none⟩) (lt_of_cell h.2.2.2.1)]; exact h.2.2.2.1, by rw [hb.cell (p := ⟨b, o + 1, none⟩) (lt_of_cell h.2.2.2.1)]; exact h.2.2.2.2⟩
set_option maxHeartbeats 3200000 in
theorem rput_any (a : Option Addr) (n cap : Nat) (l : List KV) (x : KV) (w : World) (hh : HoldsK w a n l) (hn : n ≤ 100000) (hl : ∀ k ∈ l, k.2.size ≤ 1048576) (hx : x.2.size ≤ 1048576) :
    Calls Try.prog 34 #[.slice a n cap, keyV x] w (RetI w (putK x l)) := by
  obtain ⟨i0, hi, hz0, hz1, hz2⟩ := info_parts item_info
  have hll := hh.len
  obtain ⟨x1, x2⟩ := x
  unfold keyV
  simp only at hx ⊢
  have HH := Lib.hid hh; have HL := Lib.hid hl
  clear hh hl
  go_enter Try.func34, Try.ntmps34
  go_wp2_with fail
  have B1 := Lib.hid (below_one w (.cells #[.int .i64 x1, .string x2] 36))
  have XA := Lib.hid (show (w.alloc (.cells #[.int .i64 x1, .string x2] 36)).cell? ⟨w.heap.size, 0, none⟩ = some (.int .i64 x1) ∧ (w.alloc (.cells #[.int .i64 x1, .string x2] 36)).cell? ⟨w.heap.size, 1, none⟩ = some (.string x2) from ⟨by simp, by simp⟩)
  have S1 : w.heap.size + 1 = (w.alloc (.cells #[.int .i64 x1, .string x2] 36)).heap.size := by simp
  generalize w.alloc (.cells #[.int .i64 x1, .string x2] 36) = w1 at *
  have S2 := Lib.hid S1
  clear S1
  go_loopw [5, 6, 7] (fun ov fv iv wr => ∃ (j : Nat) (P : List KV) (f : Bool) (av : Option Addr) (cv : Nat), j ≤ n ∧ P.length ≤ j + 1 ∧ iv = .int .i64 j ∧ fv = .bool f ∧ ov = .slice av P.length cv ∧ Hid (PutInv (x1, x2) l j f P) ∧ Hid (wr.ownsRow w1.heap.size 36 2 (.slice av P.length cv) P.length (keysV P)) ∧ Hid (Below w1.heap.size w1 wr)) (fun _ _ iv _ => n - (intOf iv).toNat)
  case atStart => exact ⟨0, [], false, none, 0, by omega, by simp, rfl, rfl, rfl, Lib.hid (putInv_start _ _), Lib.hid (World.ownsRow_nil _ _ _ _), Lib.hid (Below.refl _ _)⟩
  case round =>
    obtain ⟨j, P, f, av, cv, hj, hPl, rfl, rfl, rfl, hI, hO, hB⟩ := hrel
    by_cases hlt : j < n
    · obtain ⟨bb, o, rfl, hc⟩ := HH.out.at (by omega)
      obtain ⟨g0, g1⟩ := hc j hlt
      have hbb : bb < w1.heap.size := by have := lt_of_cell g0; have := S2.out; omega
      have BW := B1.out.trans (hB.out.mono B1.out.size)
      have c0 := (BW.cell (p := ⟨bb, o + j * 2, none⟩) (lt_of_cell g0)).trans g0
      have c1 := (BW.cell (p := ⟨bb, o + j * 2 + 1, none⟩) (lt_of_cell g0)).trans g1
      clear g0 g1 BW
      have hmem := HL.out _ (getD_memK l j (by omega))
      have it := Lib.hid (fun P (h : PutInv (x1, x2) l j true P) => putInv_true h (by omega))
      have il := Lib.hid (fun P (h : PutInv (x1, x2) l j false P) => putInv_lt h (by omega))
      have ig := Lib.hid (fun P (h : PutInv (x1, x2) l j false P) => putInv_ge h (by omega))
      obtain ⟨y, hy⟩ : ∃ y, l.getD j k0 = y := ⟨_, rfl⟩
      rw [hy] at c0 c1 hmem
      simp only [hy] at it il ig
      obtain ⟨y1, y2⟩ := y
      simp only at c0 c1 hmem
      clear hc hy
      have T := Lib.hid (show Box4r wr w.heap.size bb (o + j * 2) (.int .i64 x1) (.string x2) (.int .i64 y1) (.string y2) wr from ⟨Below.refl _ _, by rw [hB.out.cell (p := ⟨w.heap.size, 0, none⟩) (by have := S2.out; show w.heap.size < _; omega)]; exact XA.out.1, by rw [hB.out.cell (p := ⟨w.heap.size, 1, none⟩) (by have := S2.out; show w.heap.size < _; omega)]; exact XA.out.2, c0, c1⟩)
      clear c0 c1
      cases f with
      | true =>
        obtain ⟨-, -, -, c0, c1⟩ := T.out
        have PI := Lib.hid (it.out P hI.out)
        clear hI it il ig
        go_upto_region 6 with fail
        go_quiet (fail)
        have OD := Lib.hid (owns_below hO.out (below_drewN wr nq))
        have BD := Lib.hid (hB.out.trans ((below_drewN wr nq).mono hB.out.size))
        have d0 : (wr.drewN nq).cell? ⟨bb, o + j * 2, none⟩ = some (.int .i64 y1) := c0
        have d1 : (wr.drewN nq).cell? ⟨bb, o + j * 2 + 1, none⟩ = some (.string y2) := c1
        generalize wr.drewN nq = wd at *
        clear c0 c1 T hO hB
        have hsz := BD.out.size
        go_wp2_with (at_builtin; refine wpList_append_any rfl (.tmp 28) (.tmp 33) 25 rfl w1.heap.size 36 i0 _ 2 24 Try.underlying25 hi hz0 hz1 hz2 rfl (by decide) _ P.length _ rfl (OD.out.alloc _) _ 1 1 [.int .i64 y1, .string y2] rfl (some_none _) rfl (two_new _ _ _ _ _) (two_one _ _) (by unfold maxLen; omega) (by omega) (by simp; omega) ?_; intro a3 c3 w3 hown3 hb3 hnil3)
        rw [show keysV P ++ [.int .i64 y1, .string y2] = keysV (P ++ [(y1, y2)]) from (keysV_snoc P (y1, y2)).symm] at hown3
        have O3 := Lib.hid hown3
        have B3 := Lib.hid ((BD.out.alloc BD.out.size _).trans hb3)
        clear hown3 hb3 hnil3
        go_roundw
        case rel => exact ⟨j + 1, P ++ [(y1, y2)], true, a3, c3, by omega, by simp; omega, by go_num, rfl, by simp, PI, Lib.hid (by have := O3.out; simpa using this), B3⟩
        case measure => simp [intOf]; omega
      | false =>
        obtain ⟨c, hc⟩ : ∃ c, lessK (x1, x2) (y1, y2) = c := ⟨_, rfl⟩
        have RL := Lib.hid (fun w => rlessI_lit (x1, x2) (y1, y2) c w hx hmem hc)
        unfold keyV at RL
        simp only at RL
        have hOD := Lib.hid (fun w2 (h : Below wr.heap.size wr w2) => owns_below hO.out h)
        have hBD := Lib.hid (fun w2 (h : Below wr.heap.size wr w2) => hB.out.trans (h.mono hB.out.size))
        go_upto_region 6 with fail
        cases c with
        | true =>
          have hPj : P.length ≤ j := by
            rcases hI.out with ⟨h, _⟩ | ⟨_, h, _⟩
            · cases h
            · rw [h]; simp; omega
          have PI := Lib.hid (il.out P hI.out (by unfold lessK at hc; exact of_decide_eq_true hc))
          clear hI it il ig hc
          go_region_held3 (fun w' => Below wr.heap.size wr w' ∧ w'.cell? ⟨w.heap.size, 0, none⟩ = some (.int .i64 x1) ∧ w'.cell? ⟨w.heap.size, 1, none⟩ = some (.string x2) ∧ w'.cell? ⟨bb, o + j * 2, none⟩ = some (.int .i64 y1) ∧ w'.cell? ⟨bb, o + j * 2 + 1, none⟩ = some (.string y2))
            (first | assumption | exact box4r_carry T.out (Below.refl _ _).drew | exact box4r_carry (by assumption) (by assumption))
            ((go_at_call 46; (with_reducible refine (RL.out _).mono ?_); rintro e w' ⟨rfl, hb⟩))
          rename_i TT
          obtain ⟨hbl, d0, d1, d2, d3⟩ := TT
          have OD := Lib.hid (hOD.out _ hbl)
          have BD := Lib.hid (hBD.out _ hbl)
          clear hb hbl T hO hB hOD hBD
          have hsz := BD.out.size
          go_wp2_with (first
            | (at_builtin; refine wpList_append_any rfl (.tmp 24) (.tmp 26) 25 rfl w1.heap.size 36 i0 _ 2 24 Try.underlying25 hi hz0 hz1 hz2 rfl (by decide) _ P.length _ rfl (OD.out.alloc _) _ 1 1 [.int .i64 x1, .string x2] rfl (some_none _) rfl (two_new _ _ _ _ _) (two_one _ _) (by unfold maxLen; omega) (by omega) (by simp; omega) ?_; intro a3 c3 w3 hown3 hb3 hnil3; have e2 : w3.cell? ⟨bb, o + j * 2, none⟩ = some (.int .i64 y1) := (((hb3.cell (p := ⟨bb, o + j * 2, none⟩) hbb).trans ((below_one _ _).cell (p := ⟨bb, o + j * 2, none⟩) (Nat.lt_of_lt_of_le hbb hsz))).trans d2); have e3 : w3.cell? ⟨bb, o + j * 2 + 1, none⟩ = some (.string y2) := (((hb3.cell (p := ⟨bb, o + j * 2 + 1, none⟩) hbb).trans ((below_one _ _).cell (p := ⟨bb, o + j * 2 + 1, none⟩) (Nat.lt_of_lt_of_le hbb hsz))).trans d3); have B3 := Lib.hid ((BD.out.alloc BD.out.size _).trans hb3); have hsz3 := B3.out.size; have O3 := Lib.hid hown3; clear hown3 hb3 hnil3)
            | (at_builtin; refine wpList_append_any rfl (.tmp 28) (.tmp 33) 25 rfl w1.heap.size 36 i0 _ 2 24 Try.underlying25 hi hz0 hz1 hz2 rfl (by decide) _ (P.length + 1) _ rfl (O3.out.alloc _) _ 1 1 [.int .i64 y1, .string y2] rfl (some_none _) rfl (two_new _ _ _ _ _) (two_one _ _) (by unfold maxLen; omega) (by omega) (by simp; omega) ?_; intro a5 c5 w5 hown5 hb5 hnil5))
          rw [show keysV P ++ [.int .i64 x1, .string x2] ++ [.int .i64 y1, .string y2] = keysV (P ++ [(x1, x2)] ++ [(y1, y2)]) by rw [keysV_snoc, keysV_snoc]] at hown5
          have O5 := Lib.hid hown5
          have B5 := Lib.hid ((B3.out.alloc B3.out.size _).trans hb5)
          clear hown5 hb5 hnil5
          go_roundw
          case rel => exact ⟨j + 1, P ++ [(x1, x2)] ++ [(y1, y2)], true, a5, c5, by omega, by simp; omega, by go_num, rfl, by simp, PI, Lib.hid (by have := O5.out; simpa [Nat.add_assoc] using this), B5⟩
          case measure => simp [intOf]; omega
        | false =>
          have PI := Lib.hid (ig.out P hI.out (by unfold lessK at hc; exact of_decide_eq_false hc))
          clear hI it il ig hc
          go_region_held3 (fun w' => Below wr.heap.size wr w' ∧ w'.cell? ⟨w.heap.size, 0, none⟩ = some (.int .i64 x1) ∧ w'.cell? ⟨w.heap.size, 1, none⟩ = some (.string x2) ∧ w'.cell? ⟨bb, o + j * 2, none⟩ = some (.int .i64 y1) ∧ w'.cell? ⟨bb, o + j * 2 + 1, none⟩ = some (.string y2))
            (first | assumption | exact box4r_carry T.out (Below.refl _ _).drew | exact box4r_carry (by assumption) (by assumption))
            ((go_at_call 46; (with_reducible refine (RL.out _).mono ?_); rintro e w' ⟨rfl, hb⟩))
          rename_i TT
          obtain ⟨hbl, d0, d1, d2, d3⟩ := TT
          have OD := Lib.hid (hOD.out _ hbl)
          have BD := Lib.hid (hBD.out _ hbl)
          clear hb hbl T hO hB hOD hBD
          have hsz := BD.out.size
          go_wp2_with (at_builtin; refine wpList_append_any rfl (.tmp 28) (.tmp 33) 25 rfl w1.heap.size 36 i0 _ 2 24 Try.underlying25 hi hz0 hz1 hz2 rfl (by decide) _ P.length _ rfl (OD.out.alloc _) _ 1 1 [.int .i64 y1, .string y2] rfl (some_none _) rfl (two_new _ _ _ _ _) (two_one _ _) (by unfold maxLen; omega) (by omega) (by simp; omega) ?_; intro a3 c3 w3 hown3 hb3 hnil3)
          rw [show keysV P ++ [.int .i64 y1, .string y2] = keysV (P ++ [(y1, y2)]) from (keysV_snoc P (y1, y2)).symm] at hown3
          have O3 := Lib.hid hown3
          have B3 := Lib.hid ((BD.out.alloc BD.out.size _).trans hb3)
          clear hown3 hb3 hnil3
          go_roundw
          case rel => exact ⟨j + 1, P ++ [(y1, y2)], false, a3, c3, by omega, by simp; omega, by go_num, rfl, by simp, PI, Lib.hid (by have := O3.out; simpa using this), B3⟩
          case measure => simp [intOf]; omega
    · obtain rfl : j = n := by omega
      have PE := Lib.hid (putInv_end (hll ▸ hI.out))
      have BW := Lib.hid (B1.out.trans (hB.out.mono B1.out.size))
      have hsz := hB.out.size
      have hs2 := S2.out
      have T0 := XA.out
      have t0 : wr.cell? ⟨w.heap.size, 0, none⟩ = some (.int .i64 x1) := by rw [hB.out.cell (p := ⟨w.heap.size, 0, none⟩) (by show w.heap.size < _; omega)]; exact T0.1
      have t1 : wr.cell? ⟨w.heap.size, 1, none⟩ = some (.string x2) := by rw [hB.out.cell (p := ⟨w.heap.size, 1, none⟩) (by show w.heap.size < _; omega)]; exact T0.2
      clear T0 hs2
      cases f with
      | true =>
        rw [if_pos rfl] at PE
        go_wp2_with fail
        go_ret
        exact retI_own PE.out.symm rfl (hO.out.mono' (by have := S2.out; omega)) BW.out _ rfl
      | false =>
        rw [if_neg (by simp)] at PE
        go_wp2_with (at_builtin; refine wpList_append_any rfl (.tmp 37) (.tmp 39) 25 rfl w1.heap.size 36 i0 _ 2 24 Try.underlying25 hi hz0 hz1 hz2 rfl (by decide) _ P.length _ rfl (hO.out.alloc _) _ 1 1 [.int .i64 x1, .string x2] rfl (some_none _) rfl (two_new _ _ _ _ _) (two_one _ _) (by unfold maxLen; omega) (by omega) (by simp; omega) ?_; intro a3 c3 w3 hown3 hb3 hnil3)
        rw [show keysV P ++ [.int .i64 x1, .string x2] = keysV (P ++ [(x1, x2)]) from (keysV_snoc P (x1, x2)).symm] at hown3
        have O3 := Lib.hid hown3
        have B3 := Lib.hid ((hB.out.alloc hB.out.size _).trans hb3)
        clear hown3 hb3 hnil3
        go_ret
        exact retI_own PE.out.symm (by simp) (O3.out.mono' (by have := S2.out; omega)) (B1.out.trans (B3.out.mono B1.out.size)) _ rfl
end Go.Proofs.Ytmpkmgkafhlpjaa
