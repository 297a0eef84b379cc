/- texts joined -/
import Derived.Test.YtgaenkckffjcaaaPkB
import Derived.Test.YtgaenkckffjcaaaPkA
import Derived.WalkLawsBesides
import Derived.WalkSpells
import Derived.Outline
import Derived.Deep.QuietTactic
import Derived.BigQuiet
import Derived.Deep.DeepCutAuto
/- the document's state of a text, plain -/
namespace Go.Proofs.Ytgaenkckffjcaaa
open Go.RowKit
set_option linter.unusedVariables false
set_option maxRecDepth 20000
namespace Au
/-- b makes a needless -/
def dom (a b : PV) : Prop := b.2 < a.2 ∧ max (a.1 - b.1) (b.1 - a.1) ≤ a.2 - b.2
instance (a b : PV) : Decidable (dom a b) := by unfold dom; infer_instance
def allL (C : Nat → Int) (k : Int) (m : Nat) : List PV := ((List.range m).filter fun (i : Nat) => decide (C i ≤ k)).map fun (i : Nat) => ((i : Int), C i)
theorem allL_zero (C : Nat → Int) (k : Int) : allL C k 0 = [] := rfl
theorem allL_yes (C : Nat → Int) (k : Int) (m : Nat) (h : C m ≤ k) : allL C k (m + 1) = allL C k m ++ [((m : Int), C m)] := by
  unfold allL
  rw [List.range_succ, List.filter_append, List.map_append]
  simp [h]
theorem allL_no (C : Nat → Int) (k : Int) (m : Nat) (h : ¬ C m ≤ k) : allL C k (m + 1) = allL C k m := by
  unfold allL
  rw [List.range_succ, List.filter_append, List.map_append]
  simp [h]
theorem allL_len (C : Nat → Int) (k : Int) (m : Nat) : (allL C k m).length ≤ m := by
  unfold allL
  rw [List.length_map]
  have := List.length_filter_le (fun (i : Nat) => decide (C i ≤ k)) (List.range m)
  simpa using this
theorem allL_mem {C : Nat → Int} {k : Int} {m : Nat} {x : PV} (h : x ∈ allL C k m) : ∃ i : Nat, i < m ∧ C i ≤ k ∧ x = ((i : Int), C i) := by
  unfold allL at h
  obtain ⟨i, hi, rfl⟩ := List.mem_map.1 h
  have := List.mem_filter.1 hi
  exact ⟨i, List.mem_range.1 this.1, of_decide_eq_true this.2, rfl⟩
theorem allL_has {C : Nat → Int} {k : Int} {m i : Nat} (h : i < m) (hk : C i ≤ k) : ((i : Int), C i) ∈ allL C k m := by
  unfold allL
  exact List.mem_map.2 ⟨i, List.mem_filter.2 ⟨List.mem_range.2 h, decide_eq_true hk⟩, rfl⟩
/-- nothing of l makes a needless -/
def staysB (l : List PV) (a : PV) : Bool := l.all fun b => !decide (dom a b)
theorem staysB_nil (a : PV) : staysB [] a = true := rfl
theorem staysB_snoc (l : List PV) (a b : PV) : staysB (l ++ [b]) a = (staysB l a && !decide (dom a b)) := by simp [staysB]
def outL (all : List PV) (i : Nat) : List PV := (all.take i).filter (staysB all)
theorem outL_zero (all : List PV) : outL all 0 = [] := rfl
theorem take_snocP (l : List PV) (i : Nat) (h : i < l.length) : l.take (i + 1) = l.take i ++ [l.getD i p0] := by
  rw [List.take_add_one, List.getD_eq_getElem?_getD, List.getElem?_eq_getElem h]; rfl
theorem outL_yes (all : List PV) (i : Nat) (h : i < all.length) (hs : staysB all (all.getD i p0) = true) : outL all (i + 1) = outL all i ++ [all.getD i p0] := by
  unfold outL; rw [take_snocP _ _ h, List.filter_append]
  congr 1
  simp [List.filter_cons]
  simpa using hs
theorem outL_no (all : List PV) (i : Nat) (h : i < all.length) (hs : staysB all (all.getD i p0) = false) : outL all (i + 1) = outL all i := by
  unfold outL; rw [take_snocP _ _ h, List.filter_append]
  have : List.filter (staysB all) [all.getD i p0] = [] := by
    rw [List.filter_cons, hs]; rfl
  rw [this, List.append_nil]
theorem outL_len (all : List PV) (i : Nat) : (outL all i).length ≤ i := by
  unfold outL
  have := List.length_filter_le (staysB all) (all.take i)
  have h2 := List.length_take_le i all
  omega
theorem outL_all {C : Nat → Int} {n : Nat} {k : Int} (hl : Lip C n) : outL (allL C k (n + 1)) (allL C k (n + 1)).length = needL C n k (n + 1) := by
  unfold outL
  rw [List.take_length]
  have key : ∀ i, i < n + 1 → C i ≤ k → (staysB (allL C k (n + 1)) ((i : Int), C i) = true ↔ needP C n k i) := by
    intro i hi hk
    have hd := dom_iff hl (i := i) (by omega) hk
    have h1 : staysB (allL C k (n + 1)) ((i : Int), C i) = true ↔ ¬ ∃ j, j ≤ n ∧ C j ≤ k ∧ C j < C i ∧ max ((i : Int) - j) ((j : Int) - i) ≤ C i - C j := by
      unfold staysB
      rw [List.all_eq_true]
      constructor
      · rintro h ⟨j, hj, hjk, h1, h2⟩
        have := h _ (allL_has (C := C) (k := k) (m := n + 1) (i := j) (by omega) hjk)
        simp only [Bool.not_eq_true', decide_eq_false_iff_not] at this
        exact this ⟨h1, h2⟩
      · intro h x hx
        obtain ⟨j, hj, hjk, rfl⟩ := allL_mem hx
        simp only [Bool.not_eq_true', decide_eq_false_iff_not]
        exact fun hd => h ⟨j, by omega, hjk, hd.1, hd.2⟩
    rw [h1, hd]
    unfold needP
    constructor
    · intro h; exact ⟨hk, fun x => h (Or.inl x), fun x => h (Or.inr x)⟩
    · rintro ⟨_, a, b⟩ (x | x)
      · exact a x
      · exact b x
  unfold allL needL at *
  rw [List.filter_map, List.filter_filter]
  congr 1
  apply List.filter_congr
  intro i hi
  have hi := List.mem_range.1 hi
  by_cases hk : C i ≤ k
  · have := key i hi hk
    simp only [Function.comp]
    rw [decide_eq_true hk, Bool.and_true]
    rw [Bool.eq_iff_iff, this, decide_eq_true_iff]
  · rw [decide_eq_false hk, Bool.and_false, decide_eq_false (fun h => hk h.1)]
theorem ref_state {q p p' : List Int} {k : Int} {j n : Nat} (hk : 0 ≤ k) (hn : q.length = n) (h : ∀ t, t < j → p'.getD t 0 = p.getD t 0) :
    outL (allL (fun i => Ed.L q p' i j) k (n + 1)) (allL (fun i => Ed.L q p' i j) k (n + 1)).length = st q p k j := by
  subst hn
  rw [outL_all (L_lip q p' j _)]
  unfold st
  exact needL_like (fun i hi => by rw [L_pre q h i]; unfold cap; omega) _ (Nat.le_refl _)
end Au
end Go.Proofs.Ytgaenkckffjcaaa
/- contract of the document's state -/
namespace Go.Proofs.Ytgaenkckffjcaaa
open Go.RowKit
set_option linter.unusedVariables false
set_option maxRecDepth 20000
/-- block p holds the position x -/
def PosAt (w : World) (p : Nat) (x : PV) : Prop := w.cell? ⟨p, 0, none⟩ = some (.int .i64 x.1) ∧ w.cell? ⟨p, 1, none⟩ = some (.int .i64 x.2)
theorem PosAt.below {w w' : World} {p : Nat} {x : PV} (h : PosAt w p x) (hb : Below w.heap.size w w') : PosAt w' p x :=
  ⟨(hb.cell (p := ⟨p, 0, none⟩) (lt_of_cell h.1)).trans h.1, (hb.cell (p := ⟨p, 1, none⟩) (lt_of_cell h.1)).trans h.2⟩
theorem posAt_new (w : World) (p : Nat) (x y : Int) (e : TypeId) (fr : Nat × Nat) (hp : p = w.heap.size) : PosAt (w.alloc (.cells #[.int .i64 x, .int .i64 y] e fr)) p (x, y) := by
  subst hp
  constructor <;> (rw [World.cell?_alloc_mark]; rfl)
theorem two_pos (w : World) (x1 x2 y1 y2 : Int) (e : TypeId) (f1 f2 : Nat × Nat) : PosAt ((w.alloc (.cells #[.int .i64 x1, .int .i64 x2] e f1)).alloc (.cells #[.int .i64 y1, .int .i64 y2] e f2)).drew w.heap.size (x1, x2) ∧
    PosAt ((w.alloc (.cells #[.int .i64 x1, .int .i64 x2] e f1)).alloc (.cells #[.int .i64 y1, .int .i64 y2] e f2)).drew (w.heap.size + 1) (y1, y2) ∧ Below w.heap.size w ((w.alloc (.cells #[.int .i64 x1, .int .i64 x2] e f1)).alloc (.cells #[.int .i64 y1, .int .i64 y2] e f2)).drew :=
  ⟨((posAt_new w _ x1 x2 e f1 rfl).below (below_one _ _)).below (Below.refl _ _).drew, (posAt_new _ _ y1 y2 e f2 (by simp)).below (Below.refl _ _).drew, (((Below.refl _ _).alloc (Nat.le_refl _) _).alloc (by simp) _).drew⟩
theorem fourp_carry {w1 w w' : World} {b o1 o2 : Nat} {v0 v1 v2 v3 : Value} (h : Below w1.heap.size w1 w ∧ w.cell? ⟨b, o1, none⟩ = some v0 ∧ w.cell? ⟨b, o1 + 1, none⟩ = some v1 ∧ w.cell? ⟨b, o2, none⟩ = some v2 ∧ w.cell? ⟨b, o2 + 1, none⟩ = some v3) (hb : Below w.heap.size w w') :
    Below w1.heap.size w1 w' ∧ w'.cell? ⟨b, o1, none⟩ = some v0 ∧ w'.cell? ⟨b, o1 + 1, none⟩ = some v1 ∧ w'.cell? ⟨b, o2, none⟩ = some v2 ∧ w'.cell? ⟨b, o2 + 1, none⟩ = some v3 :=
  ⟨h.1.trans (hb.mono h.1.size), (hb.cell (p := ⟨b, o1, none⟩) (lt_of_cell h.2.1)).trans h.2.1, (hb.cell (p := ⟨b, o1 + 1, none⟩) (lt_of_cell h.2.2.1)).trans h.2.2.1, (hb.cell (p := ⟨b, o2, none⟩) (lt_of_cell h.2.2.2.1)).trans h.2.2.2.1, (hb.cell (p := ⟨b, o2 + 1, none⟩) (lt_of_cell h.2.2.2.2)).trans h.2.2.2.2⟩
theorem row_at (q p : List Int) (m n i : Nat) (hn : q.length = n) (hi : i < n + 1) : (Ed.row q p m).getD i 0 = Ed.L q p i m := by
  subst hn
  rw [row_as, List.getD_eq_getElem?_getD, List.getElem?_map, List.getElem?_range (by omega)]; rfl
theorem rstate_no (a b : Option Addr) (n m ca cb : Nat) (k : Int) (w : World) (h : ¬ (0 ≤ k ∧ k ≤ 4)) : Calls Try.prog 13 #[.slice a n ca, .slice b m cb, .int .i64 k] w (RetP w 0 []) := by
  by_cases h1 : k < 0
  · have d1 : decide (k < 0) = true := by simpa using h1
    clear h
    go_enter Try.func13, Try.ntmps13
    go_wp2_with fail
    go_ret
    exact ⟨none, 0, rfl, World.ownsRow_nil _ _ _ _, Below.refl _ _⟩
  · have d1 : decide (k < 0) = false := by simpa using h1
    have d2 : decide (k > 4) = true := by simp; omega
    have d3 : decide (4 < k) = true := by simp; omega
    have d4 : 4 < k := by omega
    clear h
    go_enter Try.func13, Try.ntmps13
    go_wp2_with fail
    go_ret
    exact ⟨none, 0, rfl, World.ownsRow_nil _ _ _ _, Below.refl _ _⟩
set_option maxHeartbeats 3200000 in
set_option maxRecDepth 100000 in
theorem rstate_any (q p : List Int) (a b : Option Addr) (n m ca cb L : Nat) (k : Int) (S : List PV) (w : World) (ha : HoldsI .i32 w a n q) (hb : HoldsI .i32 w b m p) (hn : n ≤ 1048576) (hm : m ≤ 1048576) (hk : 0 ≤ k ∧ k ≤ 4)
    (hS : Au.outL (Au.allL (fun i => Ed.L q p i m) k (n + 1)) (Au.allL (fun i => Ed.L q p i m) k (n + 1)).length = S) (hL : S.length = L) :
    Calls Try.prog 13 #[.slice a n ca, .slice b m cb, .int .i64 k] w (RetP w L S) := by
  obtain ⟨i0, hi, hz0, hz1, hz2⟩ := info_parts pos_info
  have CR := Lib.hid (rrows_any q p a b n m ca cb w ha hb hn hm)
  have BD := Lib.hid (fun i => Ed.L_bd q p i m)
  have RA := Lib.hid (fun i (h : i < n + 1) => row_at q p m n i ha.len h)
  obtain ⟨C, hC⟩ : ∃ C : Nat → Int, C = fun i => Ed.L q p i m := ⟨_, rfl⟩
  have HC := Lib.hid (fun i => show C i = Ed.L q p i m from by rw [hC])
  rw [← hC] at hS
  obtain ⟨hk0, hk4⟩ := hk
  obtain ⟨N, hN⟩ : ∃ N, n + 1 = N := ⟨_, rfl⟩
  rw [hN] at CR hS RA
  have hN2 : N ≤ 1048577 := by omega
  obtain ⟨A, hA⟩ : ∃ A, Au.allL C k N = A := ⟨_, rfl⟩
  rw [hA] at hS
  have HS := Lib.hid hS; have HL := Lib.hid hL; have HA := Lib.hid hA; have HN := Lib.hid hN
  have d1 : decide (k < 0) = false := by simpa using hk0
  have d2 : decide (k > 4) = false := by simpa using hk4
  clear ha hb hS hL hA hN hC hn
  go_enter Try.func13, Try.ntmps13
  go_wp2_with fail
  refine CR.out.mono ?_
  rintro e w1 ⟨oa, oc, rfl, ho, hb1⟩
  have H := Lib.hid (own_holdsI ho)
  have B1 := Lib.hid hb1
  clear ho hb1 CR
  go_wp2_with fail
  go_loopw [7, 10] (fun ov iv wr => ∃ (j : Nat) (P : List PV) (av : Option Addr) (cv : Nat), j ≤ N ∧ P.length ≤ j ∧ iv = .int .i64 j ∧ ov = .slice av P.length cv ∧ Hid (P = Au.allL C k j) ∧ Hid (wr.ownsRow w1.heap.size 40 2 (.slice av P.length cv) P.length (posV P)) ∧ Hid (Below w1.heap.size w1 wr)) (fun _ iv _ => N - (intOf iv).toNat)
  case atStart => exact ⟨0, [], none, 0, by omega, by simp, rfl, rfl, Lib.hid rfl, Lib.hid (World.ownsRow_nil _ _ _ _), Lib.hid (Below.refl _ _)⟩
  case round =>
    obtain ⟨j, P, av, cv, hj, hPl, rfl, rfl, hP, hO, hB⟩ := hrel
    by_cases hlt : j < N
    · obtain ⟨bb, o, rfl, hc⟩ := (H.out.below hB.out).at (by omega)
      have e0 := hc j hlt
      rw [RA.out j hlt, ← HC.out j] at e0
      have bd := BD.out j
      rw [← HC.out j] at bd
      obtain ⟨d, hd⟩ : ∃ d, C j = d := ⟨_, rfl⟩
      rw [hd] at e0 bd
      obtain ⟨bd0, bd1⟩ := bd
      have HD := Lib.hid hd
      clear hc hd
      by_cases hdk : d ≤ k
      · have hs := Au.allL_yes C k j (by rw [HD.out]; exact hdk)
        rw [HD.out, ← hP.out] at hs
        have HSS := Lib.hid hs.symm
        clear hs
        go_wp2_with (at_builtin; refine wpList_append_any rfl (.tmp 37) (.tmp 44) 25 rfl w1.heap.size 40 i0 _ 2 16 Try.underlying25 hi hz0 hz1 hz2 rfl (by decide) _ P.length _ rfl (hO.out.alloc _) _ 1 1 [.int .i64 j, .int .i64 d] rfl (some_none _) rfl (two_newP _ _ _ _ _) (two_oneP _ _) (by unfold maxLen; omega) (by omega) (by have := hB.out.size; simp; omega) ?_; intro a3 c3 w3 hown3 hb3 hnil3)
        have hown4 : w3.ownsRow w1.heap.size 40 2 (.slice a3 (P.length + 1) c3) (P.length + 1) (posV (P ++ [((j : Int), d)])) := by rw [posV_snoc]; exact hown3
        have O3 := Lib.hid hown4
        have B3 := Lib.hid ((hB.out.alloc hB.out.size _).trans hb3)
        clear hown3 hown4 hb3 hnil3
        go_roundw
        case rel => exact ⟨j + 1, P ++ [((j : Int), d)], a3, c3, by omega, by rw [List.length_append]; exact Nat.add_le_add_right hPl 1, by go_num, by simp, HSS, Lib.hid (by have := O3.out; simpa using this), B3⟩
        case measure => simp [intOf] <;> omega
      · have hs := Au.allL_no C k j (by rw [HD.out]; exact hdk)
        rw [← hP.out] at hs
        have HSS := Lib.hid hs.symm
        have hdk2 : k < d := by omega
        clear hs
        go_wp2_with fail
        go_roundw
        case rel => exact ⟨j + 1, P, av, cv, by omega, by omega, by go_num, rfl, HSS, hO, hB⟩
        case measure => simp [intOf] <;> omega
    · obtain rfl : j = N := by omega
      have e := hP.out
      rw [HA.out] at e
      subst e
      rename World => w2
      obtain ⟨M, hM⟩ : ∃ M, P.length = M := ⟨_, rfl⟩
      rw [hM] at hO hPl HS
      have HM := Lib.hid hM
      have B2 := Lib.hid (B1.out.trans (hB.out.mono B1.out.size))
      have HP := Lib.hid (HoldsP.own hO.out)
      have QB := Lib.hid (fun i (hi : i < M) => Au.allL_mem (C := C) (k := k) (m := j) (x := P.getD i p0) (by rw [HA.out]; exact getD_memP P i (by rw [hM]; exact hi)))
      have HP2 := Lib.hid hP
      rw [hM]
      clear hP hM hO hB H B1 hlt
      go_wp2_with fail
      go_loopw [8, 11] (fun ov iv ws => ∃ (i : Nat) (Q : List PV) (av : Option Addr) (cv : Nat), i ≤ M ∧ Q.length ≤ i ∧ iv = .int .i64 i ∧ ov = .slice av Q.length cv ∧ Hid (Q = Au.outL P i) ∧ Hid (ws.ownsRow w2.heap.size 40 2 (.slice av Q.length cv) Q.length (posV Q)) ∧ Hid (Below w2.heap.size w2 ws)) (fun _ iv _ => M - (intOf iv).toNat)
      case atStart => exact ⟨0, [], none, 0, by omega, by simp, rfl, rfl, Lib.hid rfl, Lib.hid (World.ownsRow_nil _ _ _ _), Lib.hid (Below.refl _ _)⟩
      case round =>
        obtain ⟨i, Q, qv, qc, hi', hQl, rfl, rfl, hQ, hO, hB⟩ := hrel
        rename World => w3
        by_cases hlt : i < M
        · obtain ⟨e1, he1, he1k, hx⟩ := QB.out i hlt
          have bx := BD.out e1
          rw [← HC.out e1] at bx
          obtain ⟨x2, hx2⟩ : ∃ x2, C e1 = x2 := ⟨_, rfl⟩
          rw [hx2] at hx bx he1k
          obtain ⟨bx0, bx1⟩ := bx
          have HX := Lib.hid hx
          clear hx hx2
          go_wp2_with fail
          go_loopw [12, 13] (fun sv jv wt => ∃ j' : Nat, j' ≤ M ∧ jv = .int .i64 j' ∧ sv = .bool (Au.staysB (P.take j') ((e1 : Int), x2)) ∧ Hid (Below w3.heap.size w3 wt)) (fun _ jv _ => M - (intOf jv).toNat)
          case atStart => exact ⟨0, by omega, rfl, rfl, Lib.hid (Below.refl _ _)⟩
          case round =>
            obtain ⟨j', hj', rfl, rfl, hT⟩ := hrel
            by_cases hlt2 : j' < M
            · rename World => w4
              obtain ⟨e2, he2, he2k, hy⟩ := QB.out j' hlt2
              have by' := BD.out e2
              rw [← HC.out e2] at by'
              obtain ⟨y2, hy2⟩ : ∃ y2, C e2 = y2 := ⟨_, rfl⟩
              rw [hy2] at hy by' he2k
              obtain ⟨by0, by1⟩ := by'
              obtain ⟨pb, po, rfl, hc⟩ := ((HP.out.below hB.out).below hT.out).at (by omega)
              have u := hc i hlt
              have v := hc j' hlt2
              have hsn := Au.take_snocP P j' (by rw [HM.out]; exact hlt2)
              rw [HX.out] at u
              rw [hy] at v hsn
              obtain ⟨u0, u1⟩ := u
              obtain ⟨v0, v1⟩ := v
              simp only at u0 u1 v0 v1
              have HSN := Lib.hid (show Au.staysB (P.take (j' + 1)) ((e1 : Int), x2) = (Au.staysB (P.take j') ((e1 : Int), x2) && !decide (Au.dom ((e1 : Int), x2) ((e2 : Int), y2))) by rw [hsn, Au.staysB_snoc])
              obtain ⟨sb, hsb⟩ : ∃ sb, Au.staysB (P.take j') ((e1 : Int), x2) = sb := ⟨_, rfl⟩
              rw [hsb] at HSN
              rw [hsb]
              have HDM := Lib.hid (show Au.dom ((e1 : Int), x2) ((e2 : Int), y2) ↔ y2 < x2 ∧ max ((e1 : Int) - e2) ((e2 : Int) - e1) ≤ x2 - y2 from Iff.rfl)
              have x1 : (0 : Int) ≤ (i : Int) := by omega
              have x2' : (i : Int) < (M : Int) := by omega
              have x3 : (0 : Int) ≤ (j' : Int) := by omega
              have x4 : (j' : Int) < (M : Int) := by omega
              clear hc hy hy2 hsn hsb
              go_upto_region 17 with fail
              go_cut [14, 15] from 58 to 89 (fun x y wc => ∃ p1 p2 : Nat, x = .pointer (some ⟨p1, 0, none⟩) ∧ y = .pointer (some ⟨p2, 0, none⟩) ∧ Hid (PosAt wc p1 ((e1 : Int), x2) ∧ PosAt wc p2 ((e2 : Int), y2) ∧ Below w4.heap.size w4 wc))
              case first =>
                have hS0 : Below w4.heap.size w4 w4 ∧ w4.cell? ⟨pb, po + i * 2, none⟩ = some (.int .i64 e1) ∧ w4.cell? ⟨pb, po + i * 2 + 1, none⟩ = some (.int .i64 x2) ∧ w4.cell? ⟨pb, po + j' * 2, none⟩ = some (.int .i64 e2) ∧ w4.cell? ⟨pb, po + j' * 2 + 1, none⟩ = some (.int .i64 y2) := ⟨Below.refl _ _, u0, u1, v0, v1⟩
                go_region_held3 (fun w' => Below w4.heap.size w4 w' ∧ w'.cell? ⟨pb, po + i * 2, none⟩ = some (.int .i64 e1) ∧ w'.cell? ⟨pb, po + i * 2 + 1, none⟩ = some (.int .i64 x2) ∧ w'.cell? ⟨pb, po + j' * 2, none⟩ = some (.int .i64 e2) ∧ w'.cell? ⟨pb, po + j' * 2 + 1, none⟩ = some (.int .i64 y2))
                  (first | assumption | (refine fourp_carry hS0 ?_; repeat' (first | exact Below.refl _ _ | refine Below.drew ?_ | refine Below.alloc ?_ (by simp <;> omega) _ | refine Below.setCell ?_ (by simp <;> omega) _)))
                  (fail)
                all_goals
                  go_wp2_with fail
                  go_meet
                  first
                    | exact ⟨_, _, rfl, rfl, Lib.hid (two_pos _ _ _ _ _ _ _ _)⟩
                    | exact ⟨_, _, rfl, rfl, Lib.hid ⟨(two_pos _ _ _ _ _ _ _ _).2.1, (two_pos _ _ _ _ _ _ _ _).1, (two_pos _ _ _ _ _ _ _ _).2.2⟩⟩
              case rest =>
                obtain ⟨p1, p2, rfl, rfl, hF⟩ := hcut
                obtain ⟨⟨g0, g1⟩, ⟨h0, h1⟩, hBc⟩ := hF.out
                simp only at g0 g1 h0 h1
                have B5 := Lib.hid (hT.out.trans (hBc.mono hT.out.size))
                clear hF hBc hT u0 u1 v0 v1
                have s1 : IntKind.i64.wrap ((e1 : Int) - e2) = (e1 : Int) - e2 := IntWalk.i64_in _ (by omega)
                have s2 : IntKind.i64.wrap ((e2 : Int) - e1) = (e2 : Int) - e1 := IntWalk.i64_in _ (by omega)
                by_cases c1 : y2 < x2
                · have c2 : decide (y2 < x2) = true := decide_eq_true c1
                  have s3 : IntKind.i64.wrap (x2 - y2) = x2 - y2 := IntWalk.i64_in _ (by omega)
                  by_cases c3 : (e1 : Int) - e2 < (e2 : Int) - e1
                  all_goals
                    obtain ⟨z, hz⟩ : ∃ z, decide (Au.dom ((e1 : Int), x2) ((e2 : Int), y2)) = z := ⟨_, rfl⟩
                    have hsn := HSN.out
                    rw [hz] at hsn
                    have HS2 := Lib.hid hsn.symm
                    clear hsn
                    cases z
                  · have c4 : ¬ (e2 : Int) - e1 ≤ x2 - y2 := fun h => (of_decide_eq_false hz) (HDM.out.2 ⟨c1, by omega⟩)
                    clear hz
                    go_wp2_with fail
                    go_roundw
                    case rel => exact ⟨j' + 1, by omega, by go_num, by rw [← HS2.out]; simp, B5⟩
                    case measure => simp [intOf] <;> omega
                  · have c4 : (e2 : Int) - e1 ≤ x2 - y2 := by have := (HDM.out.1 (of_decide_eq_true hz)).2; omega
                    clear hz
                    go_wp2_with fail
                    go_roundw
                    case rel => exact ⟨j' + 1, by omega, by go_num, by rw [← HS2.out]; simp, B5⟩
                    case measure => simp [intOf] <;> omega
                  · have c4 : ¬ (e1 : Int) - e2 ≤ x2 - y2 := fun h => (of_decide_eq_false hz) (HDM.out.2 ⟨c1, by omega⟩)
                    clear hz
                    go_wp2_with fail
                    go_roundw
                    case rel => exact ⟨j' + 1, by omega, by go_num, by rw [← HS2.out]; simp, B5⟩
                    case measure => simp [intOf] <;> omega
                  · have c4 : (e1 : Int) - e2 ≤ x2 - y2 := by have := (HDM.out.1 (of_decide_eq_true hz)).2; omega
                    clear hz
                    go_wp2_with fail
                    go_roundw
                    case rel => exact ⟨j' + 1, by omega, by go_num, by rw [← HS2.out]; simp, B5⟩
                    case measure => simp [intOf] <;> omega
                · have hd : decide (Au.dom ((e1 : Int), x2) ((e2 : Int), y2)) = false := decide_eq_false (fun h => c1 (HDM.out.1 h).1)
                  have hsn := HSN.out
                  rw [hd, Bool.not_false, Bool.and_true] at hsn
                  have HS2 := Lib.hid hsn.symm
                  have c2 : decide (y2 < x2) = false := decide_eq_false c1
                  clear hd hsn
                  go_wp2_with fail
                  go_roundw
                  case rel => exact ⟨j' + 1, by omega, by go_num, by rw [HS2.out], B5⟩
                  case measure => simp [intOf] <;> omega
            · obtain rfl : j' = M := by omega
              have hfull : P.take j' = P := List.take_of_length_le (by rw [HM.out]; exact Nat.le_refl _)
              rw [hfull]
              obtain ⟨sb, hsb⟩ : ∃ sb, Au.staysB P ((e1 : Int), x2) = sb := ⟨_, rfl⟩
              rw [hsb]
              have B5 := Lib.hid hT.out
              have B6 := Lib.hid (hB.out.trans (hT.out.mono hB.out.size))
              have HSB := Lib.hid hsb
              clear hfull hsb hT hlt2
              cases sb
              · have hs := Au.outL_no P i (by rw [HM.out]; exact hlt) (by rw [HX.out]; exact HSB.out)
                rw [← hQ.out] at hs
                have HSS := Lib.hid hs.symm
                have O6 := Lib.hid (owns_below hO.out B5.out)
                clear hs hO
                go_wp2_with fail
                go_roundw
                case rel => exact ⟨i + 1, Q, qv, qc, by omega, by omega, by go_num, rfl, HSS, O6, B6⟩
                case measure => simp [intOf] <;> omega
              · have hs := Au.outL_yes P i (by rw [HM.out]; exact hlt) (by rw [HX.out]; exact HSB.out)
                rw [← hQ.out, HX.out] at hs
                have HSS := Lib.hid hs.symm
                have O6 := Lib.hid (owns_below hO.out B5.out)
                obtain ⟨pb, po, rfl, hc⟩ := (HP.out.below B6.out).at (by omega)
                have u := hc i hlt
                rw [HX.out] at u
                obtain ⟨u0, u1⟩ := u
                simp only at u0 u1
                have x1 : (0 : Int) ≤ (i : Int) := by omega
                have x2' : (i : Int) < (j' : Int) := by omega
                clear hs hO hc hB
                go_wp2_with (at_builtin; refine wpList_append_any rfl (.tmp 91) (.tmp 96) 25 rfl w2.heap.size 40 i0 _ 2 16 Try.underlying25 hi hz0 hz1 hz2 rfl (by decide) _ Q.length _ rfl (O6.out.alloc _) _ 1 1 [.int .i64 e1, .int .i64 x2] rfl (some_none _) rfl (two_newP _ _ _ _ _) (two_oneP _ _) (by unfold maxLen; omega) (by omega) (by have := B6.out.size; simp; omega) ?_; intro a3 c3 w5 hown3 hb3 hnil3)
                have hown4 : w5.ownsRow w2.heap.size 40 2 (.slice a3 (Q.length + 1) c3) (Q.length + 1) (posV (Q ++ [((e1 : Int), x2)])) := by rw [posV_snoc]; exact hown3
                have O7 := Lib.hid hown4
                have B7 := Lib.hid ((B6.out.alloc B6.out.size _).trans hb3)
                clear hown3 hown4 hb3 hnil3
                go_roundw
                case rel => exact ⟨i + 1, Q ++ [((e1 : Int), x2)], a3, c3, by omega, by rw [List.length_append]; exact Nat.add_le_add_right hQl 1, by go_num, by simp, HSS, Lib.hid (by have := O7.out; simpa using this), B7⟩
                case measure => simp [intOf] <;> omega
        · obtain rfl : i = M := by omega
          have e := hQ.out
          rw [HS.out] at e
          subst e
          have hql := HL.out
          subst hql
          have O8 := Lib.hid (owns_mono hO.out B2.out.size)
          have B8 := Lib.hid (B2.out.trans (hB.out.mono B2.out.size))
          clear hO hB hQ hlt
          go_wp2_with fail
          go_ret
          exact ⟨qv, qc, rfl, O8.out, B8.out⟩
end Go.Proofs.Ytgaenkckffjcaaa
/- Slices of bytes as lists of natural numbers. -/
namespace Go.Proofs.Ytgaenkckffjcaaa
open Go.ChangeShapes Go.WideShapes Go.ChangeAt Go.RowKit
set_option linter.unusedVariables false
set_option maxRecDepth 20000
/-- The slice at a of n bytes holds the bytes bs. -/
def HoldsB (w : World) (a : Option Addr) (n : Nat) (bs : List Nat) : Prop := HoldsI .u8 w a n (bs.map fun b : Nat => (b : Int)) ∧ ∀ b ∈ bs, b < 256
theorem HoldsB.len {w : World} {a : Option Addr} {n : Nat} {bs : List Nat} (h : HoldsB w a n bs) : bs.length = n := by simpa using h.1.1
theorem getD_map_cast (bs : List Nat) (i : Nat) : (bs.map fun b : Nat => (b : Int)).getD i 0 = ((bs.getD i 0 : Nat) : Int) := by
  simp only [List.getD_eq_getElem?_getD, List.getElem?_map]
  cases bs[i]? <;> rfl
theorem HoldsB.at {w : World} {a : Option Addr} {n : Nat} {bs : List Nat} (h : HoldsB w a n bs) (h0 : 0 < n) : ∃ b o, a = some ⟨b, o, none⟩ ∧ ∀ i, i < n → w.cell? ⟨b, o + i, none⟩ = some (.int .u8 ((bs.getD i 0 : Nat) : Int)) := by
  obtain ⟨b, o, ha, hc⟩ := h.1.2 h0
  exact ⟨b, o, ha, fun i hi => by rw [hc i hi, getD_map_cast]⟩
theorem HoldsB.below {w w' : World} {a : Option Addr} {n : Nat} {bs : List Nat} (h : HoldsB w a n bs) (hb : Below w.heap.size w w') : HoldsB w' a n bs := ⟨h.1.below hb, h.2⟩
theorem HoldsB.part {w : World} {b o n : Nat} {bs : List Nat} (h : HoldsB w (some ⟨b, o, none⟩) n bs) (i j : Nat) (hij : i ≤ j) (hj : j ≤ n) (m : Nat) (hm : m = j - i) : HoldsB w (some ⟨b, o + i, none⟩) m ((bs.take j).drop i) := by
  refine ⟨?_, fun x hx => h.2 x (List.mem_of_mem_take (List.mem_of_mem_drop hx))⟩
  rw [List.map_drop, List.map_take]
  exact h.1.part i j hij hj m hm
theorem HoldsB.front {w : World} {b o n : Nat} {bs : List Nat} (h : HoldsB w (some ⟨b, o, none⟩) n bs) (j : Nat) (hj : j ≤ n) : HoldsB w (some ⟨b, o, none⟩) j (bs.take j) := by
  have := h.part 0 j (by omega) hj j (by omega)
  simpa using this
theorem getD_lt {bs : List Nat} (h : ∀ b ∈ bs, b < 256) (i : Nat) : bs.getD i 0 < 256 := by
  rw [List.getD_eq_getElem?_getD]
  cases e : bs[i]? with
  | none => simp
  | some x => exact h x (List.mem_of_getElem? e)

/-- the bytes as values -/
def bytesV (bs : List Nat) : List Value := (bs.map fun b : Nat => (b : Int)).map (Value.int .u8)
theorem bytesV_length (bs : List Nat) : (bytesV bs).length = bs.length := by simp [bytesV]
theorem HoldsB.values {w : World} {a : Option Addr} {n : Nat} {bs : List Nat} (h : HoldsB w a n bs) : HoldsV w a n (bytesV bs) := h.1.values
theorem bytesV_one (bs : List Nat) : ∀ u ∈ bytesV bs, u.oneCell' = true := ints_oneCell _ _
theorem roomy_bytes {w : World} {B : Nat} {e : TypeId} {mark : Value} {n k : Nat} {bs : List Nat} (hl : bs.length = n) (hb : ∀ b ∈ bs, b < 256) (h : Roomy w B e mark n (bytesV bs) k) : HoldsB w (some ⟨B, 0, none⟩) n bs :=
  ⟨⟨by simpa using hl, fun _ => ⟨B, 0, rfl, fun i hi => by rw [Nat.zero_add, h.cell i hi, bytesV, getD_map_int .u8 _ i (by simp [hl]; exact hi)]⟩⟩, hb⟩
theorem bytesV_append (a b : List Nat) : bytesV a ++ bytesV b = bytesV (a ++ b) := by simp [bytesV]
theorem holdsB_of_values {w : World} {a : Option Addr} {n : Nat} {bs : List Nat} (h : HoldsV w a n (bytesV bs)) (hb : ∀ b ∈ bs, b < 256) : HoldsB w a n bs := by
  have hl : bs.length = n := by have := h.1; simpa [bytesV] using this
  refine ⟨⟨by simpa using hl, fun h0 => ?_⟩, hb⟩
  obtain ⟨b, o, ha, hc⟩ := h.2 h0
  exact ⟨b, o, ha, fun i hi => by rw [hc i hi, bytesV, getD_map_int .u8 _ i (by simp [hl]; exact hi)]⟩
theorem holdsB_lit (w : World) (bs : List Nat) (e : TypeId) (fr : Nat × Nat) (h : ∀ b ∈ bs, b < 256) : HoldsB (w.alloc (.cells (bs.map fun b : Nat => Value.int .u8 (b : Int)).toArray e fr)) (some ⟨w.heap.size, 0, none⟩) bs.length bs := by
  refine ⟨⟨by simp, fun _ => ⟨_, _, rfl, fun i hi => ?_⟩⟩, h⟩
  rw [World.cell?_alloc_mark, getD_map_cast, Nat.zero_add]
  simp [List.getD_eq_getElem?_getD, hi]
theorem holdsB_nil (w : World) (a : Option Addr) : HoldsB w a 0 [] := ⟨⟨rfl, fun h => absurd h (by decide)⟩, by simp⟩
/-- A slice of bytes that the call made: what it returns, and what became of the world. EB: the number of the type of its elements. -/
def RetB (EB : TypeId) (w : World) (bs : List Nat) (e : Ending) (w' : World) : Prop :=
  ∃ a c, e = .returned (.slice a bs.length c) ∧ w'.ownsRow w.heap.size EB 1 (.slice a bs.length c) bs.length (bytesV bs) ∧ Below w.heap.size w w' ∧ (a = none → bs.length = 0 ∧ c = 0)
end Go.Proofs.Ytgaenkckffjcaaa
/- lists of api.Pos: lent; kept -/
namespace Go.Proofs.Ytgaenkckffjcaaa
open Go.RowKit
set_option linter.unusedVariables false
set_option maxRecDepth 20000
theorem sfLPoses_info : (Try.prog.info? 40).map (fun i => (i.zero, i.size, i.bytes)) = some (some (.agg #[.int .i64 0, .int .i64 0]), 2, 16) := by kernel_rfl
/-- Block B is a row of n + 3 that may be written: the first n hold ks, of the three behind them the first k hold the mark. -/
def RoomyP (w : World) (B : Nat) (e : TypeId) (n : Nat) (ks : List PV) (k : Nat) : Prop :=
  ∃ cs : Array Value, w.heap[B]? = some (.cells cs e (0, 0)) ∧ cs.size = (n + 3) * 2 ∧ (∀ i, i < n → cs[i * 2]? = some (.int .i64 (ks.getD i p0).1) ∧ cs[i * 2 + 1]? = some (.int .i64 (ks.getD i p0).2)) ∧ ∀ i, i < k → cs[n * 2 + i * 2]? = some (.int .i64 (-7)) ∧ cs[n * 2 + i * 2 + 1]? = some (.int .i64 0)
theorem roomyP_of_own {w : World} {base B : Nat} {e : TypeId} {n : Nat} {ks : List PV} (hl : ks.length = n) (h : w.ownsRow base e 2 (.slice (some ⟨B, 0, none⟩) n (n + 3)) n (posV ks)) : RoomyP w B e n ks 0 := by
  rcases h.2 with ⟨h0, _⟩ | ⟨g, cap, cur, hv, _, hh, _, _, hs, hx⟩
  · cases h0
  · simp only [Value.slice.injEq, Option.some.injEq, Addr.mk.injEq, and_true, true_and] at hv
    obtain ⟨rfl, rfl⟩ := hv
    refine ⟨cur, hh, by omega, fun i hi => ?_, fun i hi => by omega⟩
    obtain ⟨v0, v1⟩ := posV_at ks i (by omega)
    rw [← hx] at v0 v1
    rw [List.getElem?_take_of_lt (by omega)] at v0 v1
    rw [Array.getElem?_toList] at v0 v1
    exact ⟨v0, v1⟩
theorem RoomyP.holds {w : World} {B : Nat} {e : TypeId} {n : Nat} {ks : List PV} {k : Nat} (h : RoomyP w B e n ks k) (hl : ks.length = n) : HoldsP w (some ⟨B, 0, none⟩) n ks := by
  obtain ⟨cs, h1, _, h3, _⟩ := h
  refine ⟨hl, fun _ => ⟨B, 0, rfl, fun i hi => ?_⟩⟩
  rw [Nat.zero_add, Joins.cell_of_block h1, Joins.cell_of_block h1]
  exact h3 i hi
theorem RoomyP.room {w : World} {B : Nat} {e : TypeId} {n : Nat} {ks : List PV} {k : Nat} (h : RoomyP w B e n ks k) (i : Nat) (hi : i < k) : w.cell? ⟨B, n * 2 + i * 2, none⟩ = some (.int .i64 (-7)) ∧ w.cell? ⟨B, n * 2 + i * 2 + 1, none⟩ = some (.int .i64 0) := by
  obtain ⟨cs, h1, _, _, h4⟩ := h
  rw [Joins.cell_of_block h1, Joins.cell_of_block h1]; exact h4 i hi
theorem RoomyP.there {w : World} {B : Nat} {e : TypeId} {n : Nat} {ks : List PV} {k : Nat} (h : RoomyP w B e n ks k) (i : Nat) (hi : i < (n + 3) * 2) : ∃ v, w.cell? ⟨B, i, none⟩ = some v := by
  obtain ⟨cs, h1, h2, _, _⟩ := h
  exact ⟨cs[i]'(by omega), by rw [Joins.cell_of_block h1, Array.getElem?_eq_getElem (by omega)]⟩
theorem RoomyP.free {w : World} {B : Nat} {e : TypeId} {n : Nat} {ks : List PV} {k : Nat} (h : RoomyP w B e n ks k) (i : Nat) : w.frozen? ⟨B, i, none⟩ = false := by
  obtain ⟨cs, h1, _, _, _⟩ := h
  exact Joins.unfrozen_of_block h1 i
theorem RoomyP.put {w : World} {B : Nat} {e : TypeId} {n : Nat} {ks : List PV} {k : Nat} (h : RoomyP w B e n ks k) (hk : k < 3) : RoomyP ((w.setCell ⟨B, n * 2 + k * 2, none⟩ (.int .i64 (-7))).setCell ⟨B, n * 2 + k * 2 + 1, none⟩ (.int .i64 0)) B e n ks (k + 1) := by
  obtain ⟨cs, h1, h2, h3, h4⟩ := h
  refine ⟨_, (Joins.block_setCell (Joins.block_setCell h1 _) _), by simpa using h2, fun i hi => ?_, fun i hi => ?_⟩
  · have := h3 i hi
    simp only [Array.getElem?_setIfInBounds]
    refine ⟨?_, ?_⟩ <;> (repeat rw [if_neg (by omega)]) <;> simp only [this]
  · by_cases e1 : i = k
    · subst e1
      simp only [Array.getElem?_setIfInBounds, Array.size_setIfInBounds]
      refine ⟨?_, ?_⟩ <;> (repeat rw [if_neg (by omega)]) <;> (rw [if_pos trivial, if_pos (by omega)])
    · have := h4 i (by omega)
      simp only [Array.getElem?_setIfInBounds]
      refine ⟨?_, ?_⟩ <;> (repeat rw [if_neg (by omega)]) <;> simp only [this]
theorem RoomyP.below {w w' : World} {B : Nat} {e : TypeId} {n : Nat} {ks : List PV} {k : Nat} (h : RoomyP w B e n ks k) (hb : Below w.heap.size w w') : RoomyP w' B e n ks k := by
  obtain ⟨cs, h1, h2⟩ := h
  exact ⟨cs, by rw [hb.block B (Array.getElem?_eq_some_iff.1 h1).1]; exact h1, h2⟩
set_option maxHeartbeats 1600000 in
theorem lendPoses_any (a : Option Addr) (n cap : Nat) (ks : List PV) (w : World) (h : HoldsP w a n ks) (hnil : a = none → n = 0 ∧ cap = 0) (hn : n ≤ 1048576) :
    Calls Try.prog 14 #[.slice a n cap] w fun e w' => e = .returned (.slice (some ⟨w.heap.size, 0, none⟩) n (n + 3)) ∧ Below w.heap.size w w' ∧ RoomyP w' w.heap.size 40 n ks 3 := by
  obtain ⟨i0, hi, hz0, hz1, hz2⟩ := info_parts sfLPoses_info
  have hl := h.len
  have HK := Lib.hid h; have HN := Lib.hid hnil
  have HC := Lib.hid (fun (w' : World) (hg : w.grownBy w' none) => h.cellsAny hg)
  have hkl := posV_len ks
  clear h hnil
  go_enter Try.func14, Try.ntmps14
  go_wp2_with (first | (at_make; refine wpList_make_own _ rfl _ _ 25 rfl w.heap.size 40 i0 (.agg #[.int .i64 0, .int .i64 0]) 2 Try.underlying25 hi hz0 hz1 _ _ _ (n + 3) rfl rfl (by omega) (by rw [hz2]; omega) (by unfold maxLen; omega) (Nat.le_refl _) ?_; intro w0 hown0 hgrow0) | (at_builtin; refine wpList_append_fits_any _ rfl (.tmp 10) (.tmp 11) 25 rfl w.heap.size 40 i0 2 Try.underlying25 hi hz1 w.heap.size 0 (n + 3) _ rfl hown0 a n cap (posV ks) rfl (by rw [hkl, hl]) HN.out (HC.out _ hgrow0) (posV_one _) (by omega) ?_; intro w1 hown1 hgrow1; simp only [Nat.zero_add, List.nil_append] at hown1))
  have hb0 : Below w.heap.size w w0 := below_grown hgrow0 (by intro k hk; cases hk)
  have hb1 : Below w.heap.size w w1 := hb0.grown hgrow1 hb0.size (by intro k hk; cases hk; exact Nat.le_refl _)
  have hr1 : RoomyP w1 w.heap.size 40 n ks 0 := roomyP_of_own hl hown1
  have HB1 := Lib.hid hb1; have HR1 := Lib.hid hr1
  clear hb0 hb1 hr1 hown0 hown1 hgrow0 hgrow1
  go_loopw [5] (fun i wr => ∃ k : Nat, k ≤ 3 ∧ i = .int .i64 k ∧ Hid (RoomyP wr w.heap.size 40 n ks k) ∧ Hid (Below w.heap.size w wr)) (fun i _ => 3 - (intOf i).toNat)
  case atStart => exact ⟨0, by omega, rfl, HR1, HB1⟩
  case round =>
    obtain ⟨k, hk, rfl, hR, hB⟩ := hrel
    by_cases hlt : k < 3
    · obtain ⟨v0, hv0⟩ := hR.out.there (n * 2 + k * 2) (by omega)
      have hf0 := hR.out.free (n * 2 + k * 2)
      obtain ⟨v1, hv1⟩ := hR.out.there (n * 2 + k * 2 + 1) (by omega)
      have hf1 := hR.out.free (n * 2 + k * 2 + 1)
      go_wp2
      go_roundw
      case rel => exact ⟨k + 1, by omega, by go_num, hR.out.put hlt, ((hB.out.setCell (p := ⟨w.heap.size, n * 2 + k * 2, none⟩) (Nat.le_refl _) _).setCell (p := ⟨w.heap.size, n * 2 + k * 2 + 1, none⟩) (Nat.le_refl _) _)⟩
      case measure => simp [intOf]; omega
    · obtain rfl : k = 3 := by omega
      go_wp2
      go_ret
      exact ⟨rfl, hB.out, hR.out⟩
set_option maxHeartbeats 1600000 in
theorem keptPoses_yes (B : Nat) (e : TypeId) (n : Nat) (z : List PV) (a : Option Addr) (cap : Nat) (w : World) (h1 : z.length = n) (hR : RoomyP w B e n z 3) (h2 : HoldsP w a n z) (hn : n ≤ 1048576) :
    Calls Try.prog 16 #[.slice (some ⟨B, 0, none⟩) n (n + 3), .slice a n cap] w fun e w' => e = .returned (.bool true) ∧ Below w.heap.size w w' := by
  have HR := Lib.hid hR; have H2 := Lib.hid h2; have H1 := Lib.hid h1
  clear hR h2 h1
  have HS := Lib.hid (HR.out.holds H1.out)
  have f0 : ((-7 : Int) == -7) = true := by simp
  have f1 : ((0 : Int) == 0) = true := by simp
  go_enter Try.func16, Try.ntmps16
  go_wp2
  go_loop [6] (fun i => ∃ k : Nat, k ≤ 3 ∧ i = .int .i64 k) (fun i => 3 - (intOf i).toNat)
  case atStart => exact ⟨0, by omega, rfl⟩
  case round =>
    obtain ⟨k, hk, rfl⟩ := hrel
    by_cases hlt : k < 3
    · obtain ⟨hv0, hv1⟩ := HR.out.room k hlt
      go_wp2
      go_round
      case rel => exact ⟨k + 1, by omega, by go_num⟩
      case measure => simp [intOf]; omega
    · obtain rfl : k = 3 := by omega
      go_wp2_with fail
      refine (samePoses_yes _ _ _ _ _ z _ HS.out H2.out (by omega)).mono ?_
      rintro e w' ⟨rfl, hb⟩
      go_wp2_with fail
      go_ret
      exact ⟨rfl, hb⟩
end Go.Proofs.Ytgaenkckffjcaaa
/- what was answered is written over, and beyond: api.Pos -/
namespace Go.Proofs.Ytgaenkckffjcaaa
open Go.RowKit
set_option linter.unusedVariables false
set_option maxRecDepth 20000
theorem sfOPoses_info : (Try.prog.info? 40).map (fun i => (i.zero, i.size, i.bytes)) = some (some (.agg #[.int .i64 0, .int .i64 0]), 2, 16) := by kernel_rfl
theorem sgrown_setPoses {w wr : World} {g : Nat} (h : w.grownBy wr (some g)) (o : Nat) (v : Value) : w.grownBy (wr.setCell ⟨g, o, none⟩ v) (some g) :=
  ⟨h.os, h.tape, h.output, by have := h.size; simpa using this, fun b hb hne => (Below.heap_setCell wr ⟨g, o, none⟩ v b (fun e => hne (by show some b = some g; rw [e]))).trans (h.block b hb hne)⟩
theorem over_newPoses (w : World) (e : TypeId) (fr : Nat × Nat) : ∀ ad, (some ⟨w.heap.size, 0, none⟩ : Option Addr) = some ad → ∀ j x, ([.int .i64 (-9), .int .i64 0] : List Value)[j]? = some x → (w.alloc (.cells #[.int .i64 (-9), .int .i64 0] e fr)).cell? (ad.add j) = some x := by
  intro ad h j x hx
  cases h
  rw [Go.WideShapes.add_plain, Nat.zero_add, World.cell?_alloc_mark]
  simpa using hx
theorem over_onePoses : ∀ u ∈ ([.int .i64 (-9), .int .i64 0] : List Value), u.oneCell' = true := by simp [Value.oneCell']
set_option maxHeartbeats 3200000 in
/-- Written over is a slice of the call's own (its blocks lie from B on): below B nothing turns, and nothing but the slice's block. -/
theorem overPoses_any (B : Nat) (a : Option Addr) (n cap : Nat) (xs : List Value) (w : World) (h : w.ownsRow B 40 2 (.slice a n cap) n xs) (hB : B ≤ w.heap.size) (hn : n ≤ 1048576) :
    Calls Try.prog 17 #[.slice a n cap] w fun e w' => e = .returned (.tuple #[]) ∧ Below B w w' ∧ w.grownBy w' (Value.slice a n cap).ownBlock := by
  obtain ⟨i0, hi, hz0, hz1, hz2⟩ := info_parts sfOPoses_info
  have H := Lib.hid h
  clear h
  go_enter Try.func17, Try.ntmps17
  go_wp2_with fail
  go_loopw [2] (fun i wr => ∃ (k : Nat) (ys : List Value), k ≤ n ∧ i = .int .i64 k ∧ Hid (wr.ownsRow B 40 2 (.slice a n cap) n ys) ∧ Hid (Below B w wr) ∧ Hid (w.grownBy wr (Value.slice a n cap).ownBlock)) (fun i _ => n - (intOf i).toNat)
  case atStart => exact ⟨0, xs, by omega, rfl, H, Below.refl _ _, Lib.hid ⟨rfl, rfl, rfl, Nat.le_refl _, fun _ _ _ => rfl⟩⟩
  case round =>
    obtain ⟨k, ys, hk, rfl, hO, hBw, hGr⟩ := hrel
    by_cases hlt : k < n
    · obtain ⟨g, rfl⟩ : ∃ g, a = some ⟨g, 0, none⟩ := by
        obtain ⟨g, cap', hv⟩ := Joins.ownsRow_form hO.out (by omega)
        simp only [Value.slice.injEq] at hv
        exact ⟨g, hv.1⟩
      have hyl : ys.length = n * 2 := hO.out.1
      have hc0 := hO.out.cellAt (k * 2) (by omega)
      have hc1 := hO.out.cellAt (k * 2 + 1) (by omega)
      rw [List.getElem?_eq_getElem (by omega)] at hc0 hc1
      obtain ⟨y0, hy0⟩ : ∃ y, ys[k * 2] = y := ⟨_, rfl⟩
      rw [hy0] at hc0
      obtain ⟨y1, hy1⟩ : ∃ y, ys[k * 2 + 1] = y := ⟨_, rfl⟩
      rw [hy1] at hc1
      clear hy0 hy1
      clear hyl
      have hf0 := hO.out.frozenAt (k * 2)
      have hf1 := hO.out.frozenAt (k * 2 + 1)
      have O2 := Lib.hid (((hO.out.stored (k * 2) (.int .i64 (-9))).1.stored (k * 2 + 1) (.int .i64 0)).1)
      have B2 := Lib.hid ((hBw.out.setCell (p := ⟨g, k * 2, none⟩) (hO.out.lt g rfl).1 (.int .i64 (-9))).setCell (p := ⟨g, k * 2 + 1, none⟩) (hO.out.lt g rfl).1 (.int .i64 0))
      have G2 := Lib.hid (sgrown_setPoses (sgrown_setPoses hGr.out (k * 2) (.int .i64 (-9))) (k * 2 + 1) (.int .i64 0))
      clear hO hBw hGr
      go_wp2_with fail
      go_roundw
      case rel => exact ⟨k + 1, _, by omega, by go_num, O2, B2, G2⟩
      case measure => simp [intOf]; omega
    · have hs := hBw.out.size
      go_wp2_with (at_builtin; refine wpList_append_own _ rfl (.tmp 13) (.tmp 15) 25 rfl B 40 i0 _ 2 16 Try.underlying25 hi hz0 hz1 hz2 rfl (by decide) _ n _ rfl (hO.out.alloc _) _ 1 1 [.int .i64 (-9), .int .i64 0] rfl rfl (over_newPoses _ _ _ _ rfl) over_onePoses (by unfold maxLen; omega) (by omega) (by simp; omega) ?_; intro v3 w3 hown3 hg3 hn3)
      go_end0
      have hsz := hGr.out.size
      refine ⟨rfl, hBw.out.trans (((Below.refl _ _).alloc (by omega) _).grown hg3 (by simp; omega) fun k hk => (hO.out.lt k hk).1), ⟨hg3.os.trans hGr.out.os, hg3.tape.trans hGr.out.tape, hg3.output.trans hGr.out.output, ?_, fun b hb hne => ?_⟩⟩
      · have := hg3.size; simp at this; omega
      · rw [hg3.block b (by simp; omega) hne, Below.heap_alloc _ _ _ (by omega)]
        exact hGr.out.block b hb hne
end Go.Proofs.Ytgaenkckffjcaaa
