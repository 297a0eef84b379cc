/- RankTop: what comes first is the document's -/
import Derived.Test.YtioegheehodndaaQRankSortsW
import Derived.Test.YtioegheehodndaaPkC
namespace Go.Proofs.Ytioegheehodndaa
open Go.RowKit
set_option linter.unusedVariables false
set_option maxRecDepth 20000
theorem rtop_lit (a : Option Addr) (n cap L : Nat) (ws : List Tx) (s : Tx) (k m : Int) (ys : List KV) (w : World) (hh : HoldsT w a n ws) (hn : n ≤ 50000) (hl : ∀ t ∈ ws, t.size ≤ 1048576) (hs : s.size ≤ 1048576) (hy : topK ws s k m = ys) (hL : ys.length = L) :
    Calls Try.prog 19 #[.slice a n cap, .agg #[.string s, .int .i64 k, .int .i64 m]] w (RetJ w L ys) := by subst hy; exact (rtop_any a n cap ws s k m w hh hn hl hs).mono fun _ _ h => h.j hL
theorem top_lit (a : Option Addr) (n cap L : Nat) (ws : List Tx) (s : Tx) (k m : Int) (ys : List KV) (w : World) (hh : HoldsT w a n ws) (hn : n ≤ 50000) (hl : ∀ t ∈ ws, t.size ≤ 1048576) (hs : s.size ≤ 1048576) (hy : topK ws s k m = ys) (hL : ys.length = L) :
    Calls Try.prog 14 #[.slice a n cap, .agg #[.string s, .int .i64 k, .int .i64 m]] w (RetJ w L ys) := by subst hy; exact (rankTop_any a n cap ws s k m w hh hn hl hs).mono fun _ _ h => h.j hL
theorem rall_lit (a : Option Addr) (n cap L : Nat) (ws : List Tx) (s : Tx) (k : Int) (ys : List KV) (w : World) (hh : HoldsT w a n ws) (hn : n ≤ 50000) (hl : ∀ t ∈ ws, t.size ≤ 1048576) (hs : s.size ≤ 1048576) (hy : allK ws s k = ys) (hL : ys.length = L) :
    Calls Try.prog 20 #[.slice a n cap, .string s, .int .i64 k] w (RetJ w L ys) := by subst hy; exact (rall_any a n cap ws s k w hh hn hl hs).mono fun _ _ h => h.j hL
theorem all_lit (a : Option Addr) (n cap L : Nat) (ws : List Tx) (s : Tx) (k : Int) (ys : List KV) (w : World) (hh : HoldsT w a n ws) (hn : n ≤ 50000) (hl : ∀ t ∈ ws, t.size ≤ 1048576) (hs : s.size ≤ 1048576) (hy : allK ws s k = ys) (hL : ys.length = L) :
    Calls Try.prog 15 #[.slice a n cap, .string s, .int .i64 k] w (RetJ w L ys) := by subst hy; exact (rankAll_any a n cap ws s k w hh hn hl hs).mono fun _ _ h => h.j hL
theorem rmay_lit (s : ByteArray) (k n : Int) (c : Bool) (w : World) (hs : s.size ≤ 1048576) (hc : decide (mayP s k n) = c) :
    Calls Try.prog 17 #[.agg #[.string s, .int .i64 k, .int .i64 n]] w fun e w' => e = .returned (.bool c) ∧ Below w.heap.size w w' := by subst hc; exact rmay_any s k n w hs
def Box3q (w0 : World) (p : Nat) (v0 v1 v2 : Value) (w : World) : Prop := Below w0.heap.size w0 w ∧ w.cell? ⟨p, 0, none⟩ = some v0 ∧ w.cell? ⟨p, 1, none⟩ = some v1 ∧ w.cell? ⟨p, 2, none⟩ = some v2
theorem box3q_carry {w0 w w' : World} {p : Nat} {v0 v1 v2 : Value} (h : Box3q w0 p v0 v1 v2 w) (hb : Below w.heap.size w w') : Box3q w0 p v0 v1 v2 w' :=
  ⟨h.1.trans (hb.mono h.1.size), by rw [hb.cell (p := ⟨p, 0, none⟩) (lt_of_cell h.2.1)]; exact h.2.1, by rw [hb.cell (p := ⟨p, 1, none⟩) (lt_of_cell h.2.1)]; exact h.2.2.1, by rw [hb.cell (p := ⟨p, 2, none⟩) (lt_of_cell h.2.1)]; exact h.2.2.2⟩
theorem row_apart {w w' : World} {B B' : Nat} {e e' : TypeId} {s s' : Nat} {v u : Value} {n m : Nat} {xs ys : List Value} (h1 : w.ownsRow B e s v n xs) (h2 : w'.ownsRow B' e' s' u m ys) (hB : w.heap.size ≤ B') : u.ownBlock = none ∨ u.ownBlock ≠ v.ownBlock := by
  cases hu : u.ownBlock with
  | none => exact Or.inl rfl
  | some g =>
    refine Or.inr fun e => ?_
    have a := (h2.lt g hu).1
    have b := (h1.lt g e.symm).2
    omega
theorem tops_len (ws : List Tx) (s : Tx) (k m : Int) : (topK ws s k m).length ≤ ws.length := by
  unfold topK
  split
  · have := allK_len ws s k
    rw [List.length_take]; omega
  · simp
set_option maxRecDepth 100000 in
set_option maxHeartbeats 6400000 in
theorem rankTop_law (a : Option Addr) (n ca : Nat) (ws : List Tx) (s : Tx) (k m : Int) (w : World) (hh : HoldsT w a n ws) (hnil : a = none → n = 0 ∧ ca = 0) (hcap : n ≤ ca) (hn : n ≤ 9223372036854775807) (hs : ∀ t ∈ ws, t.size ≤ 9223372036854775807) (hx : s.size ≤ 9223372036854775807) :
    Calls Try.prog 3 #[.slice a n ca, .agg #[.string s, .int .i64 k, .int .i64 m]] w fun e w' => e = .returned (.bool true) ∧ Below w.heap.size w w' := by
  have lws := hh.len
  have BB := Lib.hid (below_one w (.cells #[.string s, .int .i64 k, .int .i64 m] 24))
  have HX := Lib.hid (hh.below BB.out)
  have GK := Lib.hid (fun w (h : HoldsT w a n ws) => great_any a n ca ws w h hn hs)
  obtain ⟨g, hg⟩ : ∃ g, greatB ws = g := ⟨_, rfl⟩
  rw [hg] at GK
  clear hh hs
  cases g with
  | true =>
    clear hg
    go_enter Try.func3, Try.ntmps3
    go_wp2_with fail
    refine (GK.out _ HX.out).mono ?_
    rintro e w' ⟨rfl, hb8⟩
    have B8 := Lib.hid (BB.out.trans (hb8.mono BB.out.size))
    clear hb8
    go_wp2_with fail
    refine (awake_any _).mono ?_
    rintro e w9 ⟨rfl, hb9⟩
    go_wp2_with fail
    go_ret
    exact ⟨rfl, B8.out.trans (hb9.mono B8.out.size)⟩
  | false =>
    obtain ⟨h80, hsm⟩ := great_no_iff.1 hg
    have SM := Lib.hid hsm
    clear hg hsm
    by_cases hx100 : s.size ≤ 100
    case neg =>
      have h4 : 100 < s.size := by omega
      clear hx100
      go_enter Try.func3, Try.ntmps3
      go_wp2_with fail
      have e0 : (w.alloc (.cells #[.string s, .int .i64 k, .int .i64 m] 24)).cell? ⟨w.heap.size, 0, none⟩ = some (.string s) := by rw [cell_alloc rfl]; rfl
      refine (GK.out _ HX.out).mono ?_
      rintro e w' ⟨rfl, hb8⟩
      have B8 := Lib.hid (BB.out.trans (hb8.mono BB.out.size))
      have e8 : w'.cell? ⟨w.heap.size, 0, none⟩ = some (.string s) := (hb8.cell (p := ⟨w.heap.size, 0, none⟩) (lt_of_cell e0)).trans e0
      clear hb8 e0
      go_wp2_with fail
      refine (awake_any _).mono ?_
      rintro e w9 ⟨rfl, hb9⟩
      go_wp2_with fail
      go_ret
      exact ⟨rfl, B8.out.trans (hb9.mono B8.out.size)⟩
    have e0 : (w.alloc (.cells #[.string s, .int .i64 k, .int .i64 m] 24)).cell? ⟨w.heap.size, 0, none⟩ = some (.string s) := by rw [cell_alloc rfl]; rfl
    have e1 : (w.alloc (.cells #[.string s, .int .i64 k, .int .i64 m] 24)).cell? ⟨w.heap.size, 1, none⟩ = some (.int .i64 k) := by rw [cell_alloc rfl]; rfl
    have e2 : (w.alloc (.cells #[.string s, .int .i64 k, .int .i64 m] 24)).cell? ⟨w.heap.size, 2, none⟩ = some (.int .i64 m) := by rw [cell_alloc rfl]; rfl
    obtain ⟨c, hc⟩ : ∃ c, decide (mayP s k m) = c := ⟨_, rfl⟩
    have CM1 := Lib.hid (fun w => may_lit s k m c w (by omega) hc)
    have CM2 := Lib.hid (fun w => rmay_lit s k m c w (by omega) hc)
    have cc : (c == c) = true := by simp
    have hT := tops_len ws s k m
    have hA := allK_len ws s k
    obtain ⟨ts, hts⟩ : ∃ ts, topK ws s k m = ts := ⟨_, rfl⟩
    obtain ⟨bs, has⟩ : ∃ bs, allK ws s k = bs := ⟨_, rfl⟩
    rw [hts] at hT
    rw [has] at hA
    obtain ⟨LT, hLT⟩ : ∃ L, ts.length = L := ⟨_, rfl⟩
    obtain ⟨LA, hLA⟩ : ∃ L, bs.length = L := ⟨_, rfl⟩
    rw [hLT] at hT
    rw [hLA] at hA
    have TS := Lib.hid hts; have AS := Lib.hid has; have NT := Lib.hid hLT; have NA := Lib.hid hLA
    have NIL := Lib.hid hnil
    have QK := Lib.hid (show ∀ t ∈ ws, t.size ≤ 1048576 from fun t ht => by have := SM.out t ht; omega)
    have LWS := Lib.hid lws
    have hn80 : n ≤ 80 := by omega
    have hTn : LT ≤ 80 := by omega
    have hAn : LA ≤ 80 := by omega
    clear hc hts has hnil lws hLT hLA hT hA
    go_enter Try.func3, Try.ntmps3
    go_wp2_with fail
    generalize w.alloc (.cells #[.string s, .int .i64 k, .int .i64 m] 24) = w1 at *
    have HB0 := Lib.hid (show Box3q w1 w.heap.size (.string s) (.int .i64 k) (.int .i64 m) w1 from ⟨Below.refl _ _, e0, e1, e2⟩)
    clear e0 e1 e2
    refine (GK.out _ HX.out).mono ?_
    rintro e w2 ⟨rfl, hb2⟩
    have B2 := Lib.hid (BB.out.trans (hb2.mono BB.out.size))
    have HX2 := Lib.hid (HX.out.below hb2)
    have HB := Lib.hid (box3q_carry HB0.out hb2)
    clear hb2 HX HB0 BB
    obtain ⟨-, e0, e1, e2⟩ := HB.out
    go_wp2_with fail
    refine (lendTexts_any a n ca _ _ HX2.out NIL.out (by omega) (strsV_one _)).mono ?_
    rintro e w3 ⟨rfl, hb3, o3⟩
    have RR := Lib.hid o3
    have HX3 := Lib.hid (HX2.out.below hb3)
    have B3 := Lib.hid (B2.out.trans (hb3.mono B2.out.size))
    have IN := Lib.hid (roomy_holdsT LWS.out o3)
    have HB3 := Lib.hid (box3q_carry HB.out hb3)
    clear hb3 o3 HX2 HB e0 e1 e2 B2
    obtain ⟨-, e0, e1, e2⟩ := HB3.out
    go_wp2_with fail
    refine (top_lit _ n (n + 3) LT ws s k m ts _ IN.out (by omega) QK.out (by omega) TS.out NT.out).mono ?_
    rintro e w4 ⟨a4, c4, rfl, hown4, hb4⟩
    have OA := Lib.hid hown4
    have B34 := Lib.hid hb4
    have HB4 := Lib.hid (box3q_carry HB3.out hb4)
    clear hown4 hb4 e0 e1 e2
    obtain ⟨-, e0, e1, e2⟩ := HB4.out
    go_wp2_with fail
    refine (all_lit _ n (n + 3) LA ws s k bs _ (IN.out.below B34.out) (by omega) QK.out (by omega) AS.out NA.out).mono ?_
    rintro e w5 ⟨a5, c5, rfl, hown5, hb5⟩
    have OB := Lib.hid hown5
    have B45 := Lib.hid hb5
    have B35 := Lib.hid (B34.out.trans (hb5.mono B34.out.size))
    have OA5 := Lib.hid (owns_below OA.out hb5)
    have HA := Lib.hid (HoldsK.own OA5.out)
    have HBs := Lib.hid (HoldsK.own OB.out)
    have HX5 := Lib.hid (HX3.out.below B35.out)
    have RR5 := Lib.hid (RR.out.below B35.out)
    have HB5 := Lib.hid (box3q_carry HB4.out hb5)
    clear hown5 hb5 HB4 e0 e1 e2 IN
    obtain ⟨-, e0, e1, e2⟩ := HB5.out
    have T := Lib.hid (show Box3q w5 w.heap.size (.string s) (.int .i64 k) (.int .i64 m) w5 from ⟨Below.refl _ _, e0, e1, e2⟩)
    clear e0 e1 e2 HB5
    go_upto_region 6 with fail
    go_region_held3 (fun w' => Below w5.heap.size w5 w' ∧ w'.cell? ⟨w.heap.size, 0, none⟩ = some (.string s) ∧ w'.cell? ⟨w.heap.size, 1, none⟩ = some (.int .i64 k) ∧ w'.cell? ⟨w.heap.size, 2, none⟩ = some (.int .i64 m))
      (first | assumption | exact box3q_carry T.out (Below.refl _ _).drew | exact box3q_carry (by assumption) (by assumption))
      (first
        | (go_at_call 16; (with_reducible refine (CM1.out _).mono ?_); rintro e w' ⟨rfl, hb⟩)
        | (go_at_call 17; (with_reducible refine (CM2.out _).mono ?_); rintro e w' ⟨rfl, hb⟩)
        | (go_at_call 19; (with_reducible refine (rtop_lit a n ca LT ws s k m ts _ (HX5.out.below (And.left (by assumption))) (by omega) QK.out (by omega) TS.out NT.out).mono ?_); rintro e w' ⟨a8, c8, rfl, hown8, hb⟩)
        | (go_at_call 18; (with_reducible refine (sameItems_yes a4 _ LT c4 _ ts _ (HA.out.below (And.left (by assumption))) (HoldsK.own (by assumption)) (by omega)).mono ?_); rintro e w' ⟨rfl, hb⟩)
        | (go_at_call 20; (with_reducible refine (rall_lit a n ca LA ws s k bs _ (HX5.out.below (And.left (by assumption))) (by omega) QK.out (by omega) AS.out NA.out).mono ?_); rintro e w' ⟨a9, c9, rfl, hown9, hb⟩)
        | (go_at_call 18; (with_reducible refine (sameItems_yes a5 _ LA c5 _ bs _ (HBs.out.below (And.left (by assumption))) (HoldsK.own (by assumption)) (by omega)).mono ?_); rintro e w' ⟨rfl, hb⟩)
        | (go_at_call 21; (with_reducible refine (keptTexts_yes _ _ n ws a ca _ LWS.out (RR5.out.below (And.left (by assumption))) (HX5.out.below (And.left (by assumption))) (by omega)).mono ?_); rintro e w' ⟨rfl, hb⟩))
    rename_i T5
    obtain ⟨hb6, -, -, -⟩ := T5
    have B56 := Lib.hid hb6
    have B36 := Lib.hid (B35.out.trans (hb6.mono B35.out.size))
    have OA6 := Lib.hid (owns_below OA5.out hb6)
    clear hb6
    go_wp2_with fail
    refine (overItems_any w3.heap.size a4 LT c4 _ _ OA6.out B36.out.size (by omega)).mono ?_
    rintro e w7 ⟨rfl, hb7, hg7⟩
    have lt_sz := hb7.size
    have B37 := Lib.hid (B36.out.trans hb7)
    have OB7 := Lib.hid ((owns_below OB.out B56.out).kept hg7 (row_apart OA.out OB.out (Nat.le_refl _)))
    clear hb7 hg7
    go_wp2_with fail
    refine (overItems_any w4.heap.size a5 LA c5 _ _ OB7.out (by have h1 := B45.out.size; have h2 := B56.out.size; have h3 := lt_sz; omega) (by omega)).mono ?_
    rintro e w8 ⟨rfl, hb8, -⟩
    have B38 := Lib.hid (B37.out.trans (hb8.mono B34.out.size))
    have HX8 := Lib.hid (HX3.out.below B38.out)
    have HB8 := Lib.hid (box3q_carry HB3.out B38.out)
    have B8 := Lib.hid (B3.out.trans (B38.out.mono B3.out.size))
    clear hb8 HX3 HB3 B37 OB7 OA6 OB OA OA5 HA HBs HX5 RR5 RR T
    obtain ⟨-, e0, e1, e2⟩ := HB8.out
    have T := Lib.hid (show Box3q w8 w.heap.size (.string s) (.int .i64 k) (.int .i64 m) w8 from ⟨Below.refl _ _, e0, e1, e2⟩)
    clear e0 e1 e2 HB8
    go_upto_region 9 with fail
    go_region_held3 (fun w' => Below w8.heap.size w8 w' ∧ w'.cell? ⟨w.heap.size, 0, none⟩ = some (.string s) ∧ w'.cell? ⟨w.heap.size, 1, none⟩ = some (.int .i64 k) ∧ w'.cell? ⟨w.heap.size, 2, none⟩ = some (.int .i64 m))
      (first | assumption | exact box3q_carry T.out (Below.refl _ _).drew | exact box3q_carry (by assumption) (by assumption))
      (first
        | (go_at_call 14; (with_reducible refine (top_lit a n ca LT ws s k m ts _ (HX8.out.below (And.left (by assumption))) (by omega) QK.out (by omega) TS.out NT.out).mono ?_); rintro e w' ⟨a8, c8, rfl, hown8, hb8⟩)
        | (go_at_call 19; (with_reducible refine (rtop_lit a n ca LT ws s k m ts _ (HX8.out.below (And.left (by assumption))) (by omega) QK.out (by omega) TS.out NT.out).mono ?_); rintro e w' ⟨a9, c9, rfl, hown9, hb9⟩)
        | (go_at_call 18; (with_reducible refine (sameItems_yes a8 a9 LT c8 c9 ts _ (HoldsK.below (HoldsK.own hown8) hb9) (HoldsK.own hown9) (by omega)).mono ?_); rintro e w' ⟨rfl, hb⟩)
        | (go_at_call 12; (with_reducible refine (awake_any _).mono ?_); rintro e w' ⟨rfl, hb⟩))
    rename_i T5
    obtain ⟨hb10, -⟩ := T5
    go_wp2_with fail
    go_ret
    exact ⟨rfl, B8.out.trans (hb10.mono B8.out.size)⟩
open Go.ChangeShapes Go.WideShapes Go.ChangeAt in
theorem query_arg {H : Type} {enc : TypeId × Value → H} {w : World} {base : Nat} {spare : Nat → Bool} {held : Bool} {r : Reach} {b0 : Nat} {v : Value} {d : DataW H} {p : List MemPlace}
    (hv : Value.okWide Try.prog w r b0 24 v) (h : DataW.Trod enc Try.prog w base spare held 24 v d p) :
    ∃ t k n, t.size ≤ 9223372036854775807 ∧ (Lit.int .i64 k).wf = true ∧ (Lit.int .i64 n).wf = true ∧ v = .agg #[.string t, .int .i64 k, .int .i64 n] := by
  obtain ⟨cs, rfl, hsz⟩ := okWide_struct Try.underlying24 hv
  obtain ⟨fuel, hf⟩ := h
  obtain ⟨hl, n, hf2⟩ := struct_cells Try.underlying24 hf
  rw [show Try.prog.cellsOf 24 = 3 by kernel_rfl] at hl
  obtain ⟨c0, c1, c2, hcs⟩ := list3 hl
  rw [hcs] at hf2
  obtain ⟨y0, z0⟩ := hf2 0 _ rfl
  obtain ⟨y1, z1⟩ := hf2 1 _ rfl
  obtain ⟨y2, z2⟩ := hf2 2 _ rfl
  obtain ⟨s, hs, _, b0⟩ := DataW.trod_string Try.underlying9 z0
  obtain ⟨k1, h1, _, b1⟩ := DataW.trod_int Try.underlying3 z1
  obtain ⟨k2, h2, _, b2⟩ := DataW.trod_int Try.underlying3 z2
  simp [cellsK_int, cellsK_str] at hs h1 h2
  subst hs h1 h2
  refine ⟨s, k1, k2, by unfold maxLen at b0; exact b0, b1, b2, ?_⟩
  congr 1
  apply Array.toList_inj.1
  simpa [Value.cells] using hcs
open Go.ChangeShapes Go.WideShapes Go.ChangeAt in
theorem rankTop_walk {H : Type} {enc : TypeId × Value → H} (W : World) (base : Nat) (v0 v1 : Value) (d0 d1 : DataW H) (p0 p1 : List MemPlace)
    (h0 : DataW.Trod enc Try.prog W 0 (fun _ => true) true 22 v0 d0 p0) (h1 : DataW.Trod enc Try.prog W 0 (fun _ => true) true 24 v1 d1 p1)
    (o0 : Value.okWide Try.prog W .any base 22 v0) (o1 : Value.okWide Try.prog W .any base 24 v1) :
    Calls Try.prog 3 #[v0, v1] W fun e w' => e = .returned (.bool true) ∧ RowKit.Below W.heap.size W w' := by
  obtain ⟨a0, n0, c0, k0, rfl, x0, y0, z0, b0, s0⟩ := open_texts_arg o0 h0
  obtain ⟨t, k, n, ht, _, _, rfl⟩ := query_arg o1 h1
  exact rankTop_law a0 n0 c0 k0 t k n W x0 y0 z0 b0 s0 ht
end Go.Proofs.Ytioegheehodndaa
