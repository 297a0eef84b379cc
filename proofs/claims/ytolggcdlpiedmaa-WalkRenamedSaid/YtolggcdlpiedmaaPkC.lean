/- texts joined -/
import Derived.Test.YtolggcdlpiedmaaPkG
import Derived.Test.YtolggcdlpiedmaaPkF
import Derived.Test.YtolggcdlpiedmaaPkA
import Derived.Deep.RegionHeld3
import Derived.Deep.DeepCutAuto
import Derived.Deep.QuietTactic
import Derived.BigQuiet
import Derived.Deep.CutRange
import Derived.Deep.CutBlock
import Derived.Test.YtolggcdlpiedmaaPkB
import Derived.RangeFuncNested
import Derived.RangeFuncBound
import Derived.RangeFuncCalls
import Derived.RangeFuncLeaves
import Derived.RangeFuncBox
import Derived.Shelf.Abstract
import Derived.Shelf.RegionOpen
import Derived.WalkKit
import Derived.OwnWalkIn
import Derived.TacticsInMore
import Derived.LoopNIn
import Derived.LoopIn
import Derived.Deep.AppendLies
import Derived.Lib.Hide
/- what every program answers that is one: edit; how long lists are -/
namespace Go.Proofs.Ytolggcdlpiedmaa
open Go.RowKit
set_option linter.unusedVariables false
set_option maxRecDepth 20000
theorem holdsI_lit (k : IntKind) (w : World) (zs : List Int) (e : TypeId) (fr : Nat × Nat) : HoldsI k (w.alloc (.cells (zs.map (Value.int k)).toArray e fr)) (some ⟨w.heap.size, 0, none⟩) zs.length zs := by
  refine ⟨rfl, fun _ => ⟨_, _, rfl, fun i hi => ?_⟩⟩
  rw [World.cell?_alloc_mark, Nat.zero_add]
  simp [List.getD_eq_getElem?_getD, hi]
theorem holdsI_nil (k : IntKind) (w : World) (a : Option Addr) : HoldsI k w a 0 [] := ⟨rfl, fun h => absurd h (by decide)⟩
theorem own_holdsI {w : World} {base : Nat} {e : TypeId} {a : Option Addr} {n c : Nat} {zs : List Int} (h : w.ownsRow base e 1 (.slice a n c) n (intsV zs)) : HoldsI .i64 w a n zs := by
  have hv := owns_holds h
  have hl : zs.length = n := by have := h.1; simpa [intsV] using this
  refine ⟨hl, fun h0 => ?_⟩
  obtain ⟨b, o, ha, hc⟩ := hv.2 h0
  exact ⟨b, o, ha, fun i hi => by rw [hc i hi, intsV, getD_map_int .i64 zs i (by omega)]⟩
theorem dist_one : distS { data := #[97, 98, 99] } { data := #[97, 120, 99, 100] } = 2 := by
  have l1 : lenS { data := #[97, 98, 99] } = 3 := by decide +kernel
  have l2 : lenS { data := #[97, 120, 99, 100] } = 4 := by decide +kernel
  have r1 : intsN (runesS { data := #[97, 98, 99] }) = [97, 98, 99] := by decide +kernel
  have r2 : intsN (runesS { data := #[97, 120, 99, 100] }) = [97, 120, 99, 100] := by decide +kernel
  have n1 : (runesS { data := #[97, 98, 99] }).length = 3 := by decide +kernel
  have n2 : (runesS { data := #[97, 120, 99, 100] }).length = 4 := by decide +kernel
  unfold distS
  rw [l1, l2, r1, r2, n1, n2, if_pos (by decide)]
  have h0 : Ed.row [97, 98, 99] [97, 120, 99, 100] 0 = [0, 1, 2, 3] := by rw [← upTo_row]; decide
  have h1 : Ed.row [97, 98, 99] [97, 120, 99, 100] 1 = [1, 0, 1, 2] := by rw [← Ed.mix_all _ _ 0, h0]; decide
  have h2 : Ed.row [97, 98, 99] [97, 120, 99, 100] 2 = [2, 1, 1, 2] := by rw [← Ed.mix_all _ _ 1, h1]; decide
  have h3 : Ed.row [97, 98, 99] [97, 120, 99, 100] 3 = [3, 2, 2, 1] := by rw [← Ed.mix_all _ _ 2, h2]; decide
  have h4 : Ed.row [97, 98, 99] [97, 120, 99, 100] 4 = [4, 3, 3, 2] := by rw [← Ed.mix_all _ _ 3, h3]; decide
  rw [← Ed.row_getD _ _ 4 3 (by decide), h4]
  rfl
theorem dist_two : distS { data := #[97] } { data := #[255] } = -1 := by
  have l2 : lenS { data := #[255] } = -1 := by decide +kernel
  unfold distS
  rw [l2, if_neg (by omega)]
theorem row_three : Ed.row [97, 98] [98] 1 = [1, 1, 1] := by
  have h0 : Ed.row [97, 98] [98] 0 = [0, 1, 2] := by rw [← upTo_row]; decide
  rw [← Ed.mix_all _ _ 0, h0]; decide
theorem rows_lit (ra rb : List Int) (m n : Nat) (a b : Option Addr) (ca cb : Nat) (w : World) (hm : ra.length = m) (hn : rb.length = n) (ha : HoldsI .i32 w a m ra) (hb : HoldsI .i32 w b n rb) (hla : m ≤ 1048576) (hlb : n ≤ 1048576) :
    Calls Try.prog 111 #[.slice a m ca, .slice b n cb] w fun e w' => e = .returned (.slice (some ⟨w.heap.size, 0, none⟩) (m + 1) (m + 1)) ∧ w'.ownsRow w.heap.size 3 1 (.slice (some ⟨w.heap.size, 0, none⟩) (m + 1) (m + 1)) (m + 1) (intsV (Ed.row ra rb n)) ∧ Below w.heap.size w w' := by
  subst hm hn; exact rows_any ra rb a b ca cb w ha hb hla hlb
end Go.Proofs.Ytolggcdlpiedmaa
/- contract of auto.Step -/
namespace Go.Proofs.Ytolggcdlpiedmaa
open Go.RowKit
set_option linter.unusedVariables false
set_option maxRecDepth 20000
namespace Au
theorem fwd_const {b : Nat → Int} {K : Int} {n : Nat} (h : ∀ i, i ≤ n → K ≤ b i) : ∀ i, i ≤ n → K ≤ fwd b i := by
  intro i
  induction i with
  | zero => exact fun _ => h 0 (Nat.zero_le _)
  | succ i ih => intro hi; have := ih (by omega); have := h (i + 1) hi; simp only [fwd]; omega
theorem bwt_const {f : Nat → Int} {K : Int} {n : Nat} (h : ∀ i, i ≤ n → K ≤ f i) : ∀ t, t ≤ n → K ≤ bwt f n t := by
  intro t
  induction t with
  | zero => exact fun _ => h n (Nat.le_refl _)
  | succ t ih => intro ht; have := ih (by omega); have := h (n - (t + 1)) (by omega); simp only [bwt]; omega
theorem fwd_congr {b c : Nat → Int} {n : Nat} (h : ∀ i, i ≤ n → b i = c i) : ∀ i, i ≤ n → fwd b i = fwd c i := by
  intro i
  induction i with
  | zero => exact fun _ => h 0 (Nat.zero_le _)
  | succ i ih => intro hi; simp only [fwd]; rw [ih (by omega), h (i + 1) hi]
theorem bwt_congr {f g : Nat → Int} {n : Nat} (h : ∀ i, i ≤ n → f i = g i) : ∀ t, t ≤ n → bwt f n t = bwt g n t := by
  intro t
  induction t with
  | zero => exact fun _ => h n (Nat.le_refl _)
  | succ t ih => intro ht; simp only [bwt]; rw [ih (by omega), h (n - (t + 1)) (by omega)]
theorem base_bs (C : Nat → Int) (n : Nat) (k : Int) (i : Nat) (hi : i ≤ n) : base (needL C n k (n + 1)) k i = bs C n k i := by
  rw [base_need]; unfold bs
  by_cases h : needP C n k i
  · rw [if_pos ⟨by omega, h⟩, if_pos h]
  · rw [if_neg (fun x => h x.2), if_neg h]
theorem spr_same {C : Nat → Int} {n : Nat} {k : Int} (hl : Lip C n) (hc : ∀ i, i ≤ n → C i ≤ k + 1) (i : Nat) (hi : i ≤ n) : sprF (needL C n k (n + 1)) k n i = C i := by
  have h := spread_same hl hc (n - i) (by omega)
  rw [show n - (n - i) = i by omega] at h
  rw [← h]; unfold sprF
  exact bwt_congr (fun i hi => fwd_congr (fun i hi => base_bs C n k i hi) i hi) _ (by omega)
theorem dead_all {C : Nat → Int} {n : Nat} {k : Int} (hl : Lip C n) (hc : ∀ i, i ≤ n → C i ≤ k + 1) (h : needL C n k (n + 1) = []) (i : Nat) (hi : i ≤ n) : C i = k + 1 := by
  have h1 := spr_same hl hc i hi
  have h2 := hc i hi
  rw [h] at h1
  have h3 : k + 1 ≤ sprF [] k n i := bwt_const (fun i hi => fwd_const (fun i _ => by simp [base]) i hi) _ (by omega)
  omega
theorem dead_next {q p : List Int} {k : Int} {j : Nat} (hk : 0 ≤ k) (h : ∀ i, i ≤ q.length → cap q p k j i = k + 1) (i : Nat) (hi : i ≤ q.length) : cap q p k (j + 1) i = k + 1 := by
  have hR : ∀ i, i ≤ q.length → (rwF (cap q p k j) (q.length + 1)).getD i 0 = cap q p k j i := fun i hi => rwF_getD (by omega)
  have h1 := adv_cap hk hR i hi
  have h2 : ∀ i, i ≤ q.length → k + 1 ≤ Ed.adv (rwF (cap q p k j) (q.length + 1)) q (p.getD j 0) i := by
    intro i
    induction i with
    | zero => intro hi; rw [Ed.adv, hR 0 hi, h 0 hi]; omega
    | succ i ih =>
      intro hi
      have h3 := ih (by omega)
      have h4 := Ed.cost_bd (q.getD i 0) (p.getD j 0)
      rw [Ed.adv, hR i (by omega), hR (i + 1) hi, h i (by omega), h (i + 1) hi]
      omega
  have := h2 i hi
  omega
theorem need_none {C : Nat → Int} {n : Nat} {k : Int} (h : ∀ i, i ≤ n → C i = k + 1) : needL C n k (n + 1) = [] := by
  unfold needL
  rw [List.map_eq_nil_iff, List.filter_eq_nil_iff]
  intro i hi hd
  have h1 := h i (by have := List.mem_range.1 hi; omega)
  have h2 := (of_decide_eq_true hd).1
  omega
/-- the state behind j runes -/
def st (q p : List Int) (k : Int) (j : Nat) : List PV := needL (cap q p k j) q.length k (q.length + 1)
theorem st_dead {q p : List Int} {k : Int} {j : Nat} (hk : 0 ≤ k) (h : st q p k j = []) : st q p k (j + 1) = [] :=
  need_none fun i hi => dead_next hk (fun i hi => dead_all (cap_lip q p k j _) (fun i _ => (cap_bd q p k hk j i).2) h i hi) i hi
theorem st_ok {q p : List Int} {k : Int} {j : Nat} (hk : 0 ≤ k) : PosOk q.length k (st q p k j) := by
  intro x hx
  obtain ⟨i, hi, hn, rfl⟩ := needL_mem hx
  have h1 := hn.1
  have h2 := (cap_bd q p k hk j i).1
  exact ⟨⟨by simp only; omega, by simp only; omega⟩, h2, h1⟩
theorem st_len {q p : List Int} {k : Int} {j : Nat} (hk : 0 ≤ k) : ((st q p k j).length : Int) ≤ 2 * k + 1 := need_len hk _
theorem st_step {q p : List Int} {k : Int} {j : Nat} {R : List Int} (hk : 0 ≤ k) (hR : ∀ i, i ≤ q.length → R.getD i 0 = cap q p k j i) (hl : R.length = q.length + 1) :
    needL (fun i => (Ed.mix R q (p.getD j 0) q.length).getD i 0) q.length k (q.length + 1) = st q p k (j + 1) := by
  refine needL_like (fun i hi => ?_) _ (Nat.le_refl _)
  show min ((Ed.mix R q (p.getD j 0) q.length).getD i 0) (k + 1) = _
  rw [Ed.mix_new R q _ _ i (by omega) hi, adv_cap hk hR i hi]
  have := (cap_bd q p k hk (j + 1) i).2
  omega
end Au
theorem owns_mono {w : World} {B B' : Nat} {e : TypeId} {size : Nat} {v : Value} {n : Nat} {xs : List Value} (h : w.ownsRow B e size v n xs) (hb : B' ≤ B) : w.ownsRow B' e size v n xs := by
  refine ⟨h.1, ?_⟩
  rcases h.2 with h1 | ⟨g, cap, cur, hv, hg, r⟩
  · exact Or.inl h1
  · exact Or.inr ⟨g, cap, cur, hv, Nat.le_trans hb hg, r⟩
theorem step_bound {q p : List Int} {k : Int} {j : Nat} (hk : 0 ≤ k ∧ k ≤ 4) (r : Int) (i : Nat) : 0 ≤ (Ed.mix (rwF (Au.cap q p k j) (q.length + 1)) q r q.length).getD i 0 ∧ (Ed.mix (rwF (Au.cap q p k j) (q.length + 1)) q r q.length).getD i 0 ≤ 4194304 := by
  have hb : ∀ i, 0 ≤ (rwF (Au.cap q p k j) (q.length + 1)).getD i 0 ∧ (rwF (Au.cap q p k j) (q.length + 1)).getD i 0 ≤ 5 := by
    intro i
    by_cases hi : i < q.length + 1
    · rw [rwF_getD hi]; have := Au.cap_bd q p k hk.1 j i; omega
    · rw [rwF_out (by omega)]; omega
  by_cases hi : i < q.length + 1
  · rw [Ed.mix_new _ q r _ i (by rw [rwF_len]; omega) (by omega)]
    have := Ed.adv_bd _ q r 5 (by decide) hb i
    omega
  · have hl := Ed.mix_length (rwF (Au.cap q p k j) (q.length + 1)) q r q.length
    rw [rwF_len] at hl
    rw [List.getD_eq_getElem?_getD, List.getElem?_eq_none (by omega)]
    exact ⟨by decide, by decide⟩
set_option maxHeartbeats 3200000 in
theorem step_any (q p : List Int) (j : Nat) (k : Int) (a sa : Option Addr) (n c L sc L2 : Nat) (r : Int) (w : World) (ha : HoldsI .i32 w a n q) (hs : HoldsP w sa L (Au.st q p k j)) (hk : 0 ≤ k ∧ k ≤ 4) (hn : n ≤ 1048576)
    (hr : p.getD j 0 = r) (hL : (Au.st q p k (j + 1)).length = L2) :
    Calls Try.prog 60 #[.slice a n c, .int .i64 k, .slice sa L sc, .int .i32 r] w (RetP w L2 (Au.st q p k (j + 1))) := by
  have HA := Lib.hid ha; have HS := Lib.hid hs; have HL := Lib.hid hL; have HR := Lib.hid hr
  have hln : q.length = n := ha.len
  have LN := Lib.hid hln
  have hll : (Au.st q p k j).length = L := hs.len
  have hL9 : L ≤ 9 := by have := Au.st_len (q := q) (p := p) (j := j) hk.1; omega
  have HLL := Lib.hid hll
  have CP := Lib.hid (fun w => permitted_lit k true w (decide_eq_true hk))
  have CD := Lib.hid (fun f hf w => dead_any sa L sc f w (by omega) hf)
  have HK := Lib.hid hk
  clear ha hs hL hr hln hll
  go_enter Try.func60, Try.ntmps60
  go_wp2_with fail
  refine (CP.out _).mono ?_
  rintro e w0 ⟨rfl, rfl⟩
  clear CP
  by_cases h0 : L = 0
  · have hnil : Au.st q p k j = [] := List.length_eq_zero_iff.1 (by rw [HLL.out]; exact h0)
    have E := Lib.hid (Au.st_dead HK.out.1 hnil)
    have CD1 := Lib.hid (CD.out true (decide_eq_true h0))
    clear hnil h0 CD
    go_wp2_with fail
    refine (CD1.out _).mono ?_
    rintro e w0 ⟨rfl, rfl⟩
    go_wp2_with fail
    go_ret
    have e2 := HL.out
    rw [E.out] at e2
    obtain rfl : L2 = 0 := by simpa using e2.symm
    rw [E.out]
    exact ⟨none, 0, rfl, World.ownsRow_nil _ _ _ _, Below.refl _ _⟩
  · have CD1 := Lib.hid (CD.out false (decide_eq_false h0))
    clear h0 CD
    go_wp2_with fail
    refine (CD1.out _).mono ?_
    rintro e w0 ⟨rfl, rfl⟩
    go_wp2_with fail
    refine (spread_any a n c sa L sc (Au.st q p k j) k _ HS.out (by rw [← LN.out]; exact Au.st_ok HK.out.1) HK.out hn (by omega)).mono ?_
    rintro e w1 ⟨rfl, ho, hb⟩
    have O1 := Lib.hid (show w1.ownsRow w.heap.size 3 1 (.slice (some ⟨w.heap.size, 0, none⟩) (n + 1) (n + 1)) (n + 1) (intsV (rwF (Au.cap q p k j) (q.length + 1))) from by
      rw [LN.out, rwF_congr (f := Au.cap q p k j) (g := sprF (Au.st q p k j) k n) (fun i hi => by
        rw [← LN.out]; exact (Au.spr_same (Au.cap_lip q p k j _) (fun i _ => (Au.cap_bd q p k HK.out.1 j i).2) i (by rw [LN.out]; omega)).symm)]
      exact ho)
    have B1 := Lib.hid hb
    clear ho hb
    go_wp2_with fail
    refine (advance_any w.heap.size w.heap.size (n + 1) n (rwF (Au.cap q p k j) (q.length + 1)) q a c r _ O1.out (HA.out.below B1.out) (fun b o h0 ha => ?_) (fun i => ?_) hn).mono ?_
    · have := holdsI_lt HA.out b o h0 ha; omega
    · by_cases hi : i < q.length + 1
      · rw [rwF_getD hi]; have := Au.cap_bd q p k HK.out.1 j i; have := HK.out; omega
      · rw [rwF_out (by omega)]; omega
    rintro e w2 ⟨rfl, ho, hg⟩
    have O2 := Lib.hid ho
    have B2 := Lib.hid (B1.out.grown hg B1.out.size (by intro q hq; injection hq with hq; omega))
    clear ho hg
    go_wp2_with fail
    have ho := O2.out
    rw [← HR.out] at ho
    refine (needed_any (some ⟨w.heap.size, 0, none⟩) n (n + 1) L2 _ k _ _ (own_holdsI ho) (by rw [← LN.out]; exact step_bound HK.out _) HK.out hn (by rw [← LN.out]; exact Au.st_step HK.out.1 (fun i hi => rwF_getD (by omega)) (rwF_len _ _)) HL.out).mono ?_
    rintro e w3 ⟨a3, c3, rfl, h3, b3⟩
    have O3 := Lib.hid (owns_mono h3 B2.out.size)
    have B3 := Lib.hid (B2.out.trans (b3.mono B2.out.size))
    clear ho h3 b3
    go_wp2_with fail
    go_ret
    exact ⟨a3, c3, rfl, O3.out, B3.out⟩
end Go.Proofs.Ytolggcdlpiedmaa
/- contract of auto.Dist; a bound that is not permitted -/
namespace Go.Proofs.Ytolggcdlpiedmaa
open Go.RowKit
set_option linter.unusedVariables false
set_option maxRecDepth 20000
namespace Au
theorem dmin_bd {n : Nat} {k : Int} (hk : 0 ≤ k) : ∀ (s : List PV), PosOk n k s → 0 ≤ dmin s n k ∧ dmin s n k ≤ k + 1 := by
  have h : ∀ (s : List PV) (d : Int), PosOk n k s → 0 ≤ d → d ≤ k + 1 → 0 ≤ s.foldl (fun (d : Int) (p : PV) => min d (p.2 + (n : Int) - p.1)) d ∧ s.foldl (fun (d : Int) (p : PV) => min d (p.2 + (n : Int) - p.1)) d ≤ k + 1 := by
    intro s
    induction s with
    | nil => intro d _ h1 h2; exact ⟨h1, h2⟩
    | cons x s ih =>
      intro d hs h1 h2
      have hx := hs x (by simp)
      rw [List.foldl_cons]
      exact ih _ (fun y hy => hs y (by simp [hy])) (by omega) (by omega)
  exact fun s hs => h s (k + 1) hs (by omega) (Int.le_refl _)
/-- what is told of a distance that is k + 1 where it is too great -/
def telB (d k : Int) : Int := if d ≤ k then d else 0
def telO (d k : Int) : Bool := decide (d ≤ k)
theorem telB_yes {d k : Int} (h : d ≤ k) : telB d k = d := if_pos h
theorem telB_no {d k : Int} (h : ¬ d ≤ k) : telB d k = 0 := if_neg h
theorem telO_yes {d k : Int} (h : d ≤ k) : telO d k = true := decide_eq_true h
theorem telO_no {d k : Int} (h : ¬ d ≤ k) : telO d k = false := decide_eq_false h
end Au
set_option maxHeartbeats 3200000 in
theorem step_off (k : Int) (a sa : Option Addr) (n c L sc : Nat) (r : Int) (w : World) (hk : ¬ (0 ≤ k ∧ k ≤ 4)) :
    Calls Try.prog 60 #[.slice a n c, .int .i64 k, .slice sa L sc, .int .i32 r] w (RetP w 0 []) := by
  have CP := Lib.hid (fun w => permitted_lit k false w (decide_eq_false hk))
  clear hk
  go_enter Try.func60, Try.ntmps60
  go_wp2_with fail
  refine (CP.out _).mono ?_
  rintro e w0 ⟨rfl, rfl⟩
  clear CP
  go_wp2_with fail
  go_ret
  exact ⟨none, 0, rfl, World.ownsRow_nil _ _ _ _, Below.refl _ _⟩
set_option maxHeartbeats 3200000 in
theorem dist_any (a : Option Addr) (n c : Nat) (sa : Option Addr) (L sc : Nat) (s : List PV) (k D : Int) (w : World) (h : HoldsP w sa L s) (hs : PosOk n k s) (hk : 0 ≤ k ∧ k ≤ 4) (hn : n ≤ 1048576) (hL : L ≤ 1048576) (hD : Au.dmin s n k = D) :
    Calls Try.prog 56 #[.slice a n c, .int .i64 k, .slice sa L sc] w fun e w' => e = .returned (.tuple #[.int .i64 (Au.telB D k), .bool (Au.telO D k)]) ∧ Below w.heap.size w w' := by
  obtain ⟨hk0, hk4⟩ := hk
  have H := Lib.hid h; have HS := Lib.hid hs; have LS := Lib.hid h.len; have HD := Lib.hid hD
  have BD := Lib.hid (fun t => Au.dmin_bd (n := n) hk0 (s.take t) (fun x hx => hs x (List.mem_of_mem_take hx)))
  clear h hs hD
  go_enter Try.func56, Try.ntmps56
  go_wp2_with fail
  go_loopw [8, 9, 15] (fun bv ov iv wr => ∃ (t : Nat) (d : Int), t ≤ L ∧ iv = .int .i64 t ∧ bv = .int .i64 (Au.telB d k) ∧ ov = .bool (Au.telO d k) ∧ Hid (Au.dmin (s.take t) n k = d) ∧ Hid (Below w.heap.size w wr)) (fun _ _ iv _ => L - (intOf iv).toNat)
  case atStart => exact ⟨0, k + 1, by omega, rfl, by unfold Au.telB; rw [if_neg (by omega)], by unfold Au.telO; rw [decide_eq_false (by omega)], Lib.hid rfl, Lib.hid (Below.refl _ _)⟩
  case round =>
    obtain ⟨t, d, ht, rfl, rfl, rfl, hD, hB⟩ := hrel
    by_cases hlt : t < L
    · obtain ⟨bs, os, rfl, hc⟩ := (H.out.below hB.out).at (by omega)
      obtain ⟨p0', p1'⟩ := hc t hlt
      have hok := HS.out _ (getD_memP s t (by have := LS.out; omega))
      have htk := take_succ_getD s p0 t (by have := LS.out; omega)
      obtain ⟨x, hx⟩ : ∃ x, s.getD t p0 = x := ⟨_, rfl⟩
      rw [hx] at p0' p1' hok htk
      obtain ⟨x1, x2⟩ := x
      simp only at p0' p1' hok
      obtain ⟨⟨hx0, hxn⟩, hd0, hdk⟩ := hok
      have bb := BD.out t
      rw [hD.out] at bb
      obtain ⟨bb0, bb1⟩ := bb
      have hsn : Au.dmin (s.take (t + 1)) n k = min d (x2 + n - x1) := by rw [htk, Au.dmin_snoc, hD.out]
      have SN := Lib.hid hsn
      have CW := Lib.hid (fun w => within_yes x1 x2 a n c k w ⟨hx0, hxn⟩ ⟨hd0, hdk⟩ (by omega))
      have b1 := below_one wr (.cells #[.int .i64 x1, .int .i64 x2] 119)
      have g0 : (wr.alloc (.cells #[.int .i64 x1, .int .i64 x2] 119)).cell? ⟨wr.heap.size, 0, none⟩ = some (.int .i64 x1) := by rw [World.cell?_alloc_mark]; rfl
      have g1 : (wr.alloc (.cells #[.int .i64 x1, .int .i64 x2] 119)).cell? ⟨wr.heap.size, 1, none⟩ = some (.int .i64 x2) := by rw [World.cell?_alloc_mark]; rfl
      have BA := Lib.hid (hB.out.trans (b1.mono hB.out.size))
      clear hc hx htk hsn hB
      go_upto_region 10 with fail
      clear b1 p0' p1'
      generalize wr.alloc (.cells #[.int .i64 x1, .int .i64 x2] 119) = wa at *
      generalize wr.heap.size = r at *
      refine (CW.out _).mono ?_
      rintro e wb ⟨rfl, hb⟩
      have q0 := (hb.cell (p := ⟨r, 0, none⟩) (lt_of_cell g0)).trans g0
      have q1 := (hb.cell (p := ⟨r, 1, none⟩) (lt_of_cell g0)).trans g1
      have BC := Lib.hid (BA.out.trans (hb.mono BA.out.size))
      clear hb g0 g1 BA CW
      by_cases hdk' : d ≤ k
      · rw [Au.telB_yes hdk', Au.telO_yes hdk']
        by_cases hek : x2 + n - x1 ≤ k
        · by_cases hed : x2 + n - x1 < d
          · have em : min d (x2 + n - x1) = x2 + n - x1 := by omega
            rw [em] at SN
            have TB := Lib.hid (Au.telB_yes hek)
            have TO := Lib.hid (Au.telO_yes hek)
            clear em
            go_wp2_with fail
            go_roundw
            case rel => exact ⟨t + 1, x2 + n - x1, by omega, by go_num, by rw [TB.out], by rw [TO.out], SN, BC⟩
            case measure => simp [intOf] <;> omega
          · have em : min d (x2 + n - x1) = d := by omega
            rw [em] at SN
            have TB := Lib.hid (Au.telB_yes hdk')
            have TO := Lib.hid (Au.telO_yes hdk')
            clear em
            go_wp2_with fail
            go_roundw
            case rel => exact ⟨t + 1, d, by omega, by go_num, by rw [TB.out], by rw [TO.out], SN, BC⟩
            case measure => simp [intOf] <;> omega
        · have em : min d (x2 + n - x1) = d := by omega
          rw [em] at SN
          have TB := Lib.hid (Au.telB_yes hdk')
          have TO := Lib.hid (Au.telO_yes hdk')
          clear em
          go_wp2_with fail
          go_roundw
          case rel => exact ⟨t + 1, d, by omega, by go_num, by rw [TB.out], by rw [TO.out], SN, BC⟩
          case measure => simp [intOf] <;> omega
      · rw [Au.telB_no hdk', Au.telO_no hdk']
        by_cases hek : x2 + n - x1 ≤ k
        · have em : min d (x2 + n - x1) = x2 + n - x1 := by omega
          rw [em] at SN
          have TB := Lib.hid (Au.telB_yes hek)
          have TO := Lib.hid (Au.telO_yes hek)
          clear em
          go_wp2_with fail
          go_roundw
          case rel => exact ⟨t + 1, x2 + n - x1, by omega, by go_num, by rw [TB.out], by rw [TO.out], SN, BC⟩
          case measure => simp [intOf] <;> omega
        · have em : min d (x2 + n - x1) = d := by omega
          rw [em] at SN
          have TB := Lib.hid (Au.telB_no hdk')
          have TO := Lib.hid (Au.telO_no hdk')
          clear em
          go_wp2_with fail
          go_roundw
          case rel => exact ⟨t + 1, d, by omega, by go_num, by rw [TB.out], by rw [TO.out], SN, BC⟩
          case measure => simp [intOf] <;> omega
    · obtain rfl : t = L := by omega
      have e : d = D := by have := hD.out; rw [List.take_of_length_le (by have := LS.out; omega), HD.out] at this; exact this.symm
      subst e
      have BE := Lib.hid hB.out
      clear hB hD
      go_wp2_with fail
      go_ret2
      exact ⟨rfl, BE.out⟩
end Go.Proofs.Ytolggcdlpiedmaa
/- what every program answers that is one: auto; how long lists are -/
namespace Go.Proofs.Ytolggcdlpiedmaa
open Go.RowKit
set_option linter.unusedVariables false
set_option maxRecDepth 20000
set_option linter.unusedSimpArgs false
namespace Au
theorem L_zero (q p : List Int) (i : Nat) : Ed.L q p i 0 = i := by
  cases i with
  | zero => simp [Ed.L]
  | succ i => simp [Ed.L]
theorem st_zero (q p : List Int) {k : Int} (hk : 0 ≤ k) : st q p k 0 = [(0, 0)] := by
  have h : ∀ m, m ≤ q.length → needL (cap q p k 0) q.length k (m + 1) = [(0, 0)] := by
    intro m
    induction m with
    | zero =>
      intro _
      rw [needL_succ, needL_zero, List.nil_append]
      have e : cap q p k 0 0 = 0 := by unfold cap; rw [L_zero]; omega
      have e1 : 0 ≤ cap q p k 0 1 := (cap_bd q p k hk 0 1).1
      rw [if_pos ⟨by omega, by omega, by simp only [Nat.zero_add]; omega⟩, e]; rfl
    | succ m ih =>
      intro hm
      rw [needL_succ, ih (by omega)]
      have e : cap q p k 0 (m + 1) = min ((m + 1 : Nat) : Int) (k + 1) := by unfold cap; rw [L_zero]
      have e0 : cap q p k 0 m = min (m : Int) (k + 1) := by unfold cap; rw [L_zero]
      rw [if_neg (fun h => by
        have h1 := h.1
        exact h.2.1 ⟨by omega, by rw [Nat.add_sub_cancel]; omega⟩)]
      rfl
  exact h _ (Nat.le_refl _)
theorem st_x : st [97, 98] [120] 1 1 = [(0, 1), (1, 1)] := by
  have e0 : cap [97, 98] [120] 1 1 0 = 1 := by simp [cap, Ed.L, Ed.cost] <;> omega
  have e1 : cap [97, 98] [120] 1 1 1 = 1 := by simp [cap, Ed.L, Ed.cost] <;> omega
  have e2 : cap [97, 98] [120] 1 1 2 = 2 := by simp [cap, Ed.L, Ed.cost] <;> omega
  simp [st, needL, List.range_succ, needP, e0, e1, e2]
theorem st_a : st [97, 98] [97] 1 1 = [(1, 0)] := by
  have e0 : cap [97, 98] [97] 1 1 0 = 1 := by simp [cap, Ed.L, Ed.cost] <;> omega
  have e1 : cap [97, 98] [97] 1 1 1 = 0 := by simp [cap, Ed.L, Ed.cost] <;> omega
  have e2 : cap [97, 98] [97] 1 1 2 = 1 := by simp [cap, Ed.L, Ed.cost] <;> omega
  simp [st, needL, List.range_succ, needP, e0, e1, e2]
end Au
theorem below_via {w w2 w3 : World} {o : Obj} (h : Below w.heap.size w w2) (hb : Below (w2.alloc o).heap.size (w2.alloc o) w3) : Below w.heap.size w w3 := by
  have h1 := h.trans ((below_one w2 o).mono h.size)
  exact h1.trans (hb.mono h1.size)
theorem holdsP_one (w : World) (x y : Int) (e : TypeId) (fr : Nat × Nat) : HoldsP (w.alloc (.cells #[.int .i64 x, .int .i64 y] e fr)) (some ⟨w.heap.size, 0, none⟩) 1 [(x, y)] := by
  refine ⟨rfl, fun _ => ⟨_, _, rfl, fun i hi => ?_⟩⟩
  obtain rfl : i = 0 := by omega
  rw [World.cell?_alloc_mark, World.cell?_alloc_mark]
  exact ⟨rfl, rfl⟩
theorem holdsP_two (w : World) (x y z u : Int) (e : TypeId) (fr : Nat × Nat) : HoldsP (w.alloc (.cells #[.int .i64 x, .int .i64 y, .int .i64 z, .int .i64 u] e fr)) (some ⟨w.heap.size, 0, none⟩) 2 [(x, y), (z, u)] := by
  refine ⟨rfl, fun _ => ⟨_, _, rfl, fun i hi => ?_⟩⟩
  rw [World.cell?_alloc_mark, World.cell?_alloc_mark]
  rcases (by omega : i = 0 ∨ i = 1) with rfl | rfl <;> exact ⟨rfl, rfl⟩
/-- a call of Step in one go: the row of runes by its own name -/
theorem step_lit (q p : List Int) (j : Nat) (k : Int) (a sa : Option Addr) (n c L sc L2 : Nat) (r : Int) (S S2 : List PV) (w : World) (ha : HoldsI .i32 w a n q) (hs : HoldsP w sa L S) (hk : 0 ≤ k ∧ k ≤ 4) (hn : n ≤ 1048576)
    (hr : p.getD j 0 = r) (hS : Au.st q p k j = S) (hS2 : Au.st q p k (j + 1) = S2) (hL : S2.length = L2) :
    Calls Try.prog 60 #[.slice a n c, .int .i64 k, .slice sa L sc, .int .i32 r] w (RetP w L2 S2) := by
  subst hS hS2; exact step_any q p j k a sa n c L sc L2 r w ha hs hk hn hr hL
end Go.Proofs.Ytolggcdlpiedmaa
/- auto: plain mathematics of the laws -/
namespace Go.Proofs.Ytolggcdlpiedmaa
open Go.RowKit
set_option linter.unusedVariables false
set_option maxRecDepth 20000
namespace Au
theorem need_sorted (C : Nat → Int) (n : Nat) (k : Int) (m : Nat) : (needL C n k m).Pairwise fun x y => x.1 < y.1 := by
  unfold needL
  exact List.Pairwise.map _ (R := fun a b : Nat => a < b) (fun a b h => by simp only; omega) (List.Pairwise.filter _ List.pairwise_lt_range)
theorem st_rises (q p : List Int) (k : Int) (i j : Nat) (hj : j + 1 < (st q p k i).length) : ((st q p k i).getD j p0).1 < ((st q p k i).getD (j + 1) p0).1 := by
  have h := List.pairwise_iff_getElem.1 (need_sorted (cap q p k i) q.length k (q.length + 1)) j (j + 1) (by unfold st at hj; omega) hj (by omega)
  unfold st at hj ⊢
  rw [List.getD_eq_getElem?_getD, List.getD_eq_getElem?_getD, List.getElem?_eq_getElem (by omega), List.getElem?_eq_getElem hj]
  exact h
/-- what is told of a position -/
theorem st_at {q p : List Int} {k : Int} (hk : 0 ≤ k) (i j : Nat) (hj : j < (st q p k i).length) : ∃ (e : Nat) (d : Int), (st q p k i).getD j p0 = ((e : Int), d) ∧ e ≤ q.length ∧ 0 ≤ d ∧ d ≤ k ∧ (e : Int) - i ≤ d ∧ (i : Int) - e ≤ d := by
  obtain ⟨e, he, hn, hx⟩ := needL_mem (getD_memP _ j hj)
  have h1 := need_low hn
  have h2 := (cap_bd q p k hk i e).1
  exact ⟨e, _, hx, by omega, h2, h1.2.2, h1.1, h1.2.1⟩
theorem L_pre (q : List Int) {p p' : List Int} {j : Nat} (h : ∀ t, t < j → p.getD t 0 = p'.getD t 0) : ∀ i, Ed.L q p i j = Ed.L q p' i j := by
  intro i
  induction i generalizing j with
  | zero => rw [Ed.L_zeroL, Ed.L_zeroL]
  | succ i ih =>
    induction j with
    | zero => rw [L_zero, L_zero]
    | succ j ihj =>
      have h1 := ih (j := j) (fun t ht => h t (by omega))
      have h2 := ih (j := j + 1) h
      have h3 := ihj (fun t ht => h t (by omega))
      simp only [Ed.L]
      rw [h1, h2, h3, h j (by omega)]
theorem st_pre (q : List Int) {p p' : List Int} (k : Int) {j : Nat} (h : ∀ t, t < j → p.getD t 0 = p'.getD t 0) : st q p k j = st q p' k j := by
  have e : cap q p k j = cap q p' k j := by funext i; unfold cap; rw [L_pre q h i]
  unfold st; rw [e]
theorem L_other {q p p' : List Int} {j : Nat} (h : ∀ t, t < j → p.getD t 0 = p'.getD t 0) (hc : ∀ i, i < q.length → Ed.cost (q.getD i 0) (p.getD j 0) = Ed.cost (q.getD i 0) (p'.getD j 0)) : ∀ i, i ≤ q.length → Ed.L q p i (j + 1) = Ed.L q p' i (j + 1) := by
  intro i
  induction i with
  | zero => intro _; rw [Ed.L_zeroL, Ed.L_zeroL]
  | succ i ih =>
    intro hi
    have h1 := ih (by omega)
    simp only [Ed.L]
    rw [h1, L_pre q h i, L_pre q h (i + 1), hc i (by omega)]
theorem st_other {q p p' : List Int} (k : Int) {j : Nat} (h : ∀ t, t < j → p.getD t 0 = p'.getD t 0) (hc : ∀ i, i < q.length → Ed.cost (q.getD i 0) (p.getD j 0) = Ed.cost (q.getD i 0) (p'.getD j 0)) : st q p k (j + 1) = st q p' k (j + 1) :=
  needL_like (fun i hi => by unfold cap; rw [L_other h hc i hi]) _ (Nat.le_refl _)
theorem st_whole {q p : List Int} {k : Int} (hk : 0 ≤ k) (j : Nat) : dmin (st q p k j) q.length k = min (Ed.L q p q.length j) (k + 1) :=
  dmin_whole (cap_lip q p k j _) (fun i _ => (cap_bd q p k hk j i).2)
/-- what is dead with a greater bound is with a lesser one -/
theorem st_less {q p : List Int} {k : Int} {j : Nat} (hk : 0 ≤ k) (h : st q p (k + 1) j = []) : st q p k j = [] :=
  need_none fun i hi => by
    have h1 := dead_all (cap_lip q p (k + 1) j _) (fun i _ => (cap_bd q p (k + 1) (by omega) j i).2) h i hi
    unfold cap at h1 ⊢; omega
end Au
end Go.Proofs.Ytolggcdlpiedmaa
/- An argument that is a slice of integers, opened; its bytes. Of whatever program. -/
namespace Go.Proofs.Ytolggcdlpiedmaa
open Go.ChangeShapes Go.WideShapes Go.ChangeAt Go.RowKit
open Go.ChangeMaps (open_string shut_string)
set_option linter.unusedVariables false
set_option maxRecDepth 20000

theorem open_ints_arg {H : Type} {enc : TypeId × Value → H} {P : Program} {W : World} {base : Nat} {t e : TypeId} {k : IntKind} {v : Value} {d : DataW H} {p : List MemPlace}
    (ht : P.underlying t = some (.slice e)) (he : P.underlying e = some (.int k)) (hc : P.cellsOf e = 1)
    (o : Value.okWide P W .any base t v) (h : DataW.Trod enc P W 0 (fun _ => true) true t v d p) :
    ∃ a n cap zs, v = .slice a n cap ∧ HoldsI k W a n zs ∧ (a = none → n = 0 ∧ cap = 0) ∧ n ≤ cap ∧ cap ≤ maxLen ∧ ∀ z ∈ zs, (Lit.int k z).wf = true := by
  obtain ⟨a, len, cap, rfl⟩ := okWide_slice ht o
  obtain ⟨fuel, hf⟩ := h
  rcases open_ints ht he hc hf with ⟨hcs, _⟩ | ⟨x, l, c, zs, hcs, _, hl, hm, hz, _, hcell, hwz⟩
  · simp [Value.cells] at hcs
    obtain ⟨rfl, rfl, rfl⟩ := hcs
    exact ⟨none, 0, 0, [], rfl, HoldsI.nil _ _ _, fun _ => ⟨rfl, rfl⟩, Nat.le_refl _, by unfold maxLen; omega, by simp⟩
  · simp [Value.cells] at hcs
    obtain ⟨rfl, rfl, rfl⟩ := hcs
    have hzc : zs.length = cap := by simpa using hz
    refine ⟨some x, len, cap, zs.take len, rfl, ⟨by simp; omega, fun h0 => ?_⟩, (fun h => by cases h), hl, hm, fun z hz => hwz z (List.mem_of_mem_take hz)⟩
    obtain ⟨b, off, rfl, hcc⟩ := ints_at hcell (by omega)
    refine ⟨b, off, rfl, fun i hi => ?_⟩
    rw [hcc i (by omega)]
    congr 2
    simp only [List.getD_eq_getElem?_getD, List.getElem?_take]
    rw [if_pos hi]
theorem u8_of_wf {z : Int} (h : (Lit.int .u8 z).wf = true) : 0 ≤ z ∧ z < 256 := by
  simp [Lit.wf, IntKind.min, IntKind.max, IntKind.signed, IntKind.bits] at h; omega
theorem i64_of_wf {z : Int} (h : (Lit.int .i64 z).wf = true) : -9223372036854775808 ≤ z ∧ z ≤ 9223372036854775807 := by
  simp [Lit.wf, IntKind.min, IntKind.max, IntKind.signed, IntKind.bits] at h; omega
theorem i32_of_wf {z : Int} (h : (Lit.int .i32 z).wf = true) : -2147483648 ≤ z ∧ z ≤ 2147483647 := by
  simp [Lit.wf, IntKind.min, IntKind.max, IntKind.signed, IntKind.bits] at h; omega
end Go.Proofs.Ytolggcdlpiedmaa
/- lists of keys (a number and a text each) -/
namespace Go.Proofs.Ytolggcdlpiedmaa
open Go.ChangeShapes Go.WideShapes Go.ChangeAt Go.RowKit
set_option linter.unusedVariables false
set_option maxRecDepth 20000
abbrev KV := Int × Tx
def k0 : KV := (0, ByteArray.empty)
def HoldsK (w : World) (a : Option Addr) (n : Nat) (ks : List KV) : Prop := ks.length = n ∧ (0 < n → ∃ b o, a = some ⟨b, o, none⟩ ∧ ∀ i, i < n → w.cell? ⟨b, o + i * 2, none⟩ = some (.int .i64 (ks.getD i k0).1) ∧ w.cell? ⟨b, o + i * 2 + 1, none⟩ = some (.string (ks.getD i k0).2))
theorem HoldsK.len {w : World} {a : Option Addr} {n : Nat} {ks : List KV} (h : HoldsK w a n ks) : ks.length = n := h.1
theorem HoldsK.at {w : World} {a : Option Addr} {n : Nat} {ks : List KV} (h : HoldsK w a n ks) (h0 : 0 < n) : ∃ b o, a = some ⟨b, o, none⟩ ∧ ∀ i, i < n → w.cell? ⟨b, o + i * 2, none⟩ = some (.int .i64 (ks.getD i k0).1) ∧ w.cell? ⟨b, o + i * 2 + 1, none⟩ = some (.string (ks.getD i k0).2) := h.2 h0
theorem HoldsK.nil (w : World) (a : Option Addr) : HoldsK w a 0 [] := ⟨rfl, fun h => absurd h (by omega)⟩
theorem HoldsK.below {w w' : World} {a : Option Addr} {n : Nat} {ks : List KV} (h : HoldsK w a n ks) (hb : Below w.heap.size w w') : HoldsK w' a n ks := by
  refine ⟨h.1, fun h0 => ?_⟩
  obtain ⟨b, o, ha, hc⟩ := h.2 h0
  have hlt := lt_of_cell (hc 0 h0).1
  refine ⟨b, o, ha, fun i hi => ?_⟩
  rw [hb.cell (p := ⟨b, o + i * 2, none⟩) hlt, hb.cell (p := ⟨b, o + i * 2 + 1, none⟩) hlt]
  exact hc i hi
theorem getD_memK (zs : List KV) (j : Nat) (h : j < zs.length) : zs.getD j k0 ∈ zs := by
  rw [List.getD_eq_getElem?_getD, List.getElem?_eq_getElem h]; simp
def keyV (k : KV) : Value := .agg #[.int .i64 k.1, .string k.2]
def i64okK (z : Int) : Prop := -9223372036854775808 ≤ z ∧ z ≤ 9223372036854775807
def KeyOk (k : KV) : Prop := i64okK k.1 ∧ k.2.size ≤ 9223372036854775807
theorem cellsK_int : Try.prog.cellsOf 3 = 1 := by kernel_rfl
theorem cellsK_str : Try.prog.cellsOf 9 = 1 := by kernel_rfl
theorem pair_of {H : Type} {enc : TypeId × Value → H} {w : World} {base : Nat} {spare : Nat → Bool} {held : Bool} {fuel : Nat} {t : TypeId} {fs : Array Field} {f0 f1 : Field} {cs : List Value} {x : DataW H × List MemPlace}
    (ht : Try.prog.underlying t = some (.struct fs)) (hc : Try.prog.cellsOf t = 2) (hf0 : fs[0]? = some f0) (hf1 : fs[1]? = some f1) (g0 : f0.type = 3 ∧ f0.offset = 0) (g1 : f1.type = 9 ∧ f1.offset = 1)
    (h : DataW.trod enc Try.prog w base spare held fuel t cs = some x) : ∃ k : KV, KeyOk k ∧ cs = [.int .i64 k.1, .string k.2] := by
  obtain ⟨hl, n, hf⟩ := struct_cells ht h
  rw [hc] at hl
  obtain ⟨c0, c1, rfl⟩ : ∃ c0 c1, cs = [c0, c1] := list2 hl
  obtain ⟨y0, z0⟩ := hf 0 _ hf0
  obtain ⟨y1, z1⟩ := hf 1 _ hf1
  rw [g0.1, g0.2] at z0
  rw [g1.1, g1.2] at z1
  obtain ⟨q1, h1, _, b1⟩ := DataW.trod_int Try.underlying3 z0
  obtain ⟨s1, h2, _, b2⟩ := DataW.trod_string Try.underlying9 z1
  simp [cellsK_int, cellsK_str] at h1 h2
  subst h1 h2
  exact ⟨(q1, s1), ⟨i64_of_wf b1, by unfold maxLen at b2; exact b2⟩, rfl⟩
theorem open_pairs_arg {H : Type} {enc : TypeId × Value → H} {W : World} {base : Nat} {v : Value} {d : DataW H} {p : List MemPlace} {t e : TypeId} {fs : Array Field} {f0 f1 : Field}
    (ht : Try.prog.underlying t = some (.slice e)) (he : Try.prog.underlying e = some (.struct fs)) (hc : Try.prog.cellsOf e = 2) (hf0 : fs[0]? = some f0) (hf1 : fs[1]? = some f1) (g0 : f0.type = 3 ∧ f0.offset = 0) (g1 : f1.type = 9 ∧ f1.offset = 1)
    (o : Value.okWide Try.prog W .any base t v) (h : DataW.Trod enc Try.prog W 0 (fun _ => true) true t v d p) :
    ∃ a n cap ks, v = .slice a n cap ∧ HoldsK W a n ks ∧ (a = none → n = 0 ∧ cap = 0) ∧ n ≤ cap ∧ n ≤ 9223372036854775807 ∧ ∀ k ∈ ks, KeyOk k := by
  obtain ⟨a, n, cap, R, rfl, hnil, h1, h2, hg, hc⟩ := open_rows_arg ht hc (by omega) (fun cs => ∃ k : KV, KeyOk k ∧ cs = [.int .i64 k.1, .string k.2]) (fun _ _ _ h => pair_of he hc hf0 hf1 g0 g1 h) o h
  have hx : ∀ i, ∃ k : KV, i < n → KeyOk k ∧ R i = [.int .i64 k.1, .string k.2] := fun i => by
    by_cases hi : i < n
    · obtain ⟨x, h3⟩ := hg i hi
      exact ⟨x, fun _ => h3⟩
    · exact ⟨k0, fun h => absurd h hi⟩
  have hget : ∀ i, i < n → ((List.range n).map fun i => (hx i).choose).getD i k0 = (hx i).choose := fun i hi => by simp [List.getD_eq_getElem?_getD, hi]
  refine ⟨a, n, cap, (List.range n).map fun i => (hx i).choose, rfl, ⟨by simp, fun h0 => ?_⟩, hnil, h1, by unfold maxLen at h2; omega, fun k hk => ?_⟩
  · obtain ⟨b, o, ha, hcell⟩ := hc h0
    refine ⟨b, o, ha, fun i hi => ?_⟩
    have e := ((hx i).choose_spec hi).2
    have c0 := hcell i hi 0 (by omega)
    have c1 := hcell i hi 1 (by omega)
    rw [e] at c0 c1
    rw [hget i hi]
    exact ⟨by simpa using c0, by simpa using c1⟩
  · obtain ⟨i, hi, rfl⟩ := List.mem_map.1 hk
    exact ((hx i).choose_spec (by simpa using hi)).1
theorem open_pair {H : Type} {enc : TypeId × Value → H} {w : World} {base : Nat} {spare : Nat → Bool} {held : Bool} {r : Reach} {b0 : Nat} {v : Value} {d : DataW H} {p : List MemPlace} {e : TypeId} {fs : Array Field} {f0 f1 : Field}
    (he : Try.prog.underlying e = some (.struct fs)) (hc : Try.prog.cellsOf e = 2) (hf0 : fs[0]? = some f0) (hf1 : fs[1]? = some f1) (g0 : f0.type = 3 ∧ f0.offset = 0) (g1 : f1.type = 9 ∧ f1.offset = 1)
    (hv : Value.okWide Try.prog w r b0 e v) (h : DataW.Trod enc Try.prog w base spare held e v d p) : ∃ k : KV, KeyOk k ∧ v = keyV k := by
  obtain ⟨cs, rfl, hsz⟩ := okWide_struct he hv
  obtain ⟨fuel, hf⟩ := h
  obtain ⟨x, hx, h1⟩ := pair_of he hc hf0 hf1 g0 g1 hf
  refine ⟨x, hx, ?_⟩
  unfold keyV
  congr 1
  apply Array.toList_inj.1
  simpa [Value.cells] using h1
/-! the order of keys -/
def ordK (a b : KV) : Int := if a.1 < b.1 then -1 else if b.1 < a.1 then 1 else cmpS a.2 b.2
def lessK (a b : KV) : Bool := decide (ordK a b < 0)
theorem ordK_bd (a b : KV) : ordK a b = -1 ∨ ordK a b = 0 ∨ ordK a b = 1 := by
  unfold ordK; split
  · simp
  · split
    · simp
    · exact cmpS_bd _ _
theorem ordK_swap (a b : KV) : ordK b a = - ordK a b := by
  unfold ordK
  rcases Int.lt_trichotomy a.1 b.1 with h | h | h
  · rw [if_pos h, if_neg (by omega), if_pos h]; rfl
  · rw [if_neg (by omega), if_neg (by omega), if_neg (by omega), if_neg (by omega), cmpS_swap]
  · rw [if_pos h, if_neg (by omega), if_pos h]
theorem ordK_lt {a b : KV} : ordK a b < 0 ↔ a.1 < b.1 ∨ (a.1 = b.1 ∧ cmpS a.2 b.2 < 0) := by
  unfold ordK
  rcases Int.lt_trichotomy a.1 b.1 with h | h | h
  · rw [if_pos h]; simp [h]
  · rw [if_neg (by omega), if_neg (by omega)]
    constructor
    · intro k; exact Or.inr ⟨h, k⟩
    · rintro (k | k)
      · omega
      · exact k.2
  · rw [if_neg (by omega), if_pos h]
    constructor
    · intro k; omega
    · rintro (k | k) <;> omega
theorem ordK_zero {a b : KV} : ordK a b = 0 ↔ a = b := by
  unfold ordK
  rcases Int.lt_trichotomy a.1 b.1 with h | h | h
  · rw [if_pos h]; constructor
    · intro k; omega
    · intro k; rw [k] at h; omega
  · rw [if_neg (by omega), if_neg (by omega), cmpS_zero]
    exact ⟨fun k => Prod.ext h k, fun k => by rw [k]⟩
  · rw [if_neg (by omega), if_pos h]; constructor
    · intro k; omega
    · intro k; rw [k] at h; omega
theorem ordK_trans {a b c : KV} (h : ordK a b < 0) (k : ordK b c < 0) : ordK a c < 0 := by
  rw [ordK_lt] at *
  rcases h with h | ⟨h, h'⟩ <;> rcases k with k | ⟨k, k'⟩
  · exact Or.inl (by omega)
  · exact Or.inl (by omega)
  · exact Or.inl (by omega)
  · exact Or.inr ⟨by omega, cmpS_trans h' k'⟩
theorem ordK_irrefl (a : KV) : ¬ ordK a a < 0 := by rw [ordK_zero.2 rfl]; omega
/-- not above, one behind the other -/
theorem ordK_le_trans {a b c : KV} (h : ¬ ordK b a < 0) (k : ¬ ordK c b < 0) : ¬ ordK c a < 0 := by
  intro h3
  rcases ordK_bd a b with e | e | e
  · exact k (ordK_trans h3 (by omega))
  · rw [ordK_zero.1 e] at h3; exact k h3
  · rw [ordK_swap] at h; omega
end Go.Proofs.Ytolggcdlpiedmaa
/- items in order: the plain mathematics -/
namespace Go.Proofs.Ytolggcdlpiedmaa
set_option linter.unusedVariables false
set_option maxRecDepth 20000
/-- not behind -/
def leK (a b : KV) : Prop := ¬ ordK b a < 0
theorem leK_refl (a : KV) : leK a a := ordK_irrefl a
theorem leK_trans {a b c : KV} (h : leK a b) (k : leK b c) : leK a c := ordK_le_trans h k
theorem leK_of_lt {a b : KV} (h : ordK a b < 0) : leK a b := by unfold leK; rw [ordK_swap]; omega
theorem leK_total (a b : KV) : leK a b ∨ leK b a := by unfold leK; have := ordK_swap a b; omega
theorem leK_asymm {a b : KV} (h : leK a b) (k : leK b a) : a = b := by
  unfold leK at h k; have := ordK_swap a b; exact ordK_zero.1 (by omega)
theorem leK_iff {a b : KV} : leK a b ↔ a = b ∨ ordK a b < 0 := by
  constructor
  · intro h
    by_cases e : ordK a b < 0
    · exact Or.inr e
    · exact Or.inl (leK_asymm h e)
  · rintro (h | h)
    · subst h; exact leK_refl a
    · exact leK_of_lt h
theorem ordK_of_le_of_lt {a b c : KV} (h : leK a b) (k : ordK b c < 0) : ordK a c < 0 := by
  rcases leK_iff.1 h with rfl | h
  · exact k
  · exact ordK_trans h k
theorem ordK_of_lt_of_le {a b c : KV} (h : ordK a b < 0) (k : leK b c) : ordK a c < 0 := by
  rcases leK_iff.1 k with rfl | k
  · exact h
  · exact ordK_trans h k
def SortedK (l : List KV) : Prop := l.Pairwise leK
theorem sortedK_unique : ∀ {xs ys : List KV}, SortedK xs → SortedK ys → xs.Perm ys → xs = ys
  | [], ys, _, _, p => (List.perm_nil.1 p.symm).symm
  | x :: xs, [], _, _, p => absurd (List.perm_nil.1 p) (by simp)
  | x :: xs, y :: ys, hx, hy, p => by
    have h1 : x = y := by
      have hy' : y ∈ x :: xs := p.mem_iff.2 (by simp)
      have hx' : x ∈ y :: ys := p.mem_iff.1 (by simp)
      rcases List.mem_cons.1 hy' with e | e
      · exact e.symm
      · rcases List.mem_cons.1 hx' with e2 | e2
        · exact e2
        · exact leK_asymm ((List.pairwise_cons.1 hx).1 y e) ((List.pairwise_cons.1 hy).1 x e2)
    subst h1
    rw [sortedK_unique (List.pairwise_cons.1 hx).2 (List.pairwise_cons.1 hy).2 (List.perm_cons x |>.1 p)]
/-- put in ahead of the first that it is ahead of -/
def putK (x : KV) : List KV → List KV
  | [] => [x]
  | y :: l => if ordK x y < 0 then x :: y :: l else y :: putK x l
theorem putK_perm (x : KV) : ∀ l, (putK x l).Perm (x :: l)
  | [] => List.Perm.refl _
  | y :: l => by
    unfold putK; split
    · exact List.Perm.refl _
    · exact ((putK_perm x l).cons y).trans (List.Perm.swap x y l)
theorem putK_sorted (x : KV) : ∀ l, SortedK l → SortedK (putK x l)
  | [], _ => by simp [putK, SortedK]
  | y :: l, h => by
    obtain ⟨h1, h2⟩ := List.pairwise_cons.1 h
    unfold putK; split
    · rename_i hlt
      refine List.pairwise_cons.2 ⟨fun z hz => ?_, h⟩
      rcases List.mem_cons.1 hz with rfl | hz
      · exact leK_of_lt hlt
      · exact leK_trans (leK_of_lt hlt) (h1 z hz)
    · rename_i hlt
      refine List.pairwise_cons.2 ⟨fun z hz => ?_, putK_sorted x l h2⟩
      rcases List.mem_cons.1 ((putK_perm x l).mem_iff.1 hz) with rfl | hz
      · exact hlt
      · exact h1 z hz
def sortK (l : List KV) : List KV := l.foldl (fun acc x => putK x acc) []
theorem foldK (l : List KV) : ∀ acc, SortedK acc → SortedK (l.foldl (fun acc x => putK x acc) acc) ∧ (l.foldl (fun acc x => putK x acc) acc).Perm (acc ++ l) := by
  induction l with
  | nil => intro acc h; simpa using h
  | cons x l ih =>
    intro acc h
    obtain ⟨h1, h2⟩ := ih (putK x acc) (putK_sorted x acc h)
    refine ⟨h1, h2.trans ?_⟩
    refine ((putK_perm x acc).append_right l).trans ?_
    exact (List.perm_middle (a := x) (l₁ := acc) (l₂ := l)).symm
theorem sortK_sorted (l : List KV) : SortedK (sortK l) := (foldK l [] List.Pairwise.nil).1
theorem sortK_perm (l : List KV) : (sortK l).Perm l := (foldK l [] List.Pairwise.nil).2
theorem sortK_snoc (l : List KV) (x : KV) : sortK (l ++ [x]) = putK x (sortK l) := by simp [sortK, List.foldl_append]
theorem sortK_length (l : List KV) : (sortK l).length = l.length := (sortK_perm l).length_eq
theorem sortK_mem {l : List KV} {x : KV} : x ∈ sortK l ↔ x ∈ l := (sortK_perm l).mem_iff
theorem sortK_of {l m : List KV} (h : SortedK m) (p : m.Perm l) : m = sortK l := sortedK_unique h (sortK_sorted l) (p.trans (sortK_perm l).symm)
theorem sortK_same {l : List KV} (h : SortedK l) : sortK l = l := (sortK_of h (List.Perm.refl _)).symm
theorem sortK_congr {l m : List KV} (p : l.Perm m) : sortK l = sortK m := sortK_of (sortK_sorted l) ((sortK_perm l).trans p)
def mleK (x y : KV) : Bool := !decide (ordK y x < 0)
theorem mergeK (l : List KV) : l.mergeSort mleK = sortK l := by
  refine sortK_of ?_ (List.mergeSort_perm l _)
  have h := List.pairwise_mergeSort (le := mleK) (fun a b c h1 h2 => by
    simp only [mleK, Bool.not_eq_true', decide_eq_false_iff_not] at *
    exact leK_trans h1 h2) (fun a b => by
    simp only [mleK, Bool.or_eq_true, Bool.not_eq_true', decide_eq_false_iff_not]
    exact leK_total a b) l
  exact h.imp fun {a b} hab => by
    simp only [mleK, Bool.not_eq_true', decide_eq_false_iff_not] at hab
    exact hab
end Go.Proofs.Ytolggcdlpiedmaa
/- rows of pairs (a number and a text each) that the call made -/
namespace Go.Proofs.Ytolggcdlpiedmaa
open Go.RowKit
set_option linter.unusedVariables false
set_option maxRecDepth 20000
def keysV : List KV → List Value
  | [] => []
  | k :: ks => .int .i64 k.1 :: .string k.2 :: keysV ks
theorem keysV_len : ∀ ks : List KV, (keysV ks).length = ks.length * 2
  | [] => rfl
  | k :: ks => by simp [keysV, keysV_len ks]; omega
theorem keysV_app : ∀ ks ls : List KV, keysV (ks ++ ls) = keysV ks ++ keysV ls
  | [], ls => rfl
  | k :: ks, ls => by simp [keysV, keysV_app ks ls]
theorem keysV_one : ∀ (ks : List KV), ∀ u ∈ keysV ks, u.oneCell' = true
  | [], u, h => by simp [keysV] at h
  | k :: ks, u, h => by
    simp only [keysV, List.mem_cons] at h
    rcases h with h | h | h
    · subst h; rfl
    · subst h; rfl
    · exact keysV_one ks u h
theorem keysV_at : ∀ (ks : List KV) (i : Nat), i < ks.length → (keysV ks)[i * 2]? = some (.int .i64 (ks.getD i k0).1) ∧ (keysV ks)[i * 2 + 1]? = some (.string (ks.getD i k0).2)
  | [], i, h => by simp at h
  | k :: ks, 0, _ => by simp [keysV]
  | k :: ks, i + 1, h => by
    have ih := keysV_at ks i (by simpa using h)
    have e1 : (i + 1) * 2 = i * 2 + 1 + 1 := by omega
    rw [e1]
    simpa [keysV] using ih
theorem HoldsK.cells {w : World} {b o n : Nat} {ks : List KV} (h : HoldsK w (some ⟨b, o, none⟩) n ks) : ∀ j u, (keysV ks)[j]? = some u → w.cell? ((⟨b, o, none⟩ : Addr).add j) = some u := by
  intro j u hj
  have hl := h.len
  have hjl : j < (keysV ks).length := by
    rcases Nat.lt_or_ge j (keysV ks).length with h' | h'
    · exact h'
    · rw [List.getElem?_eq_none h'] at hj; cases hj
  rw [keysV_len] at hjl
  obtain ⟨b', o', ha, hc⟩ := h.at (by omega)
  cases ha
  obtain ⟨c1, c2⟩ := hc (j / 2) (by omega)
  obtain ⟨v1, v2⟩ := keysV_at ks (j / 2) (by omega)
  rw [Go.WideShapes.add_plain]
  have hcase : j = j / 2 * 2 ∨ j = j / 2 * 2 + 1 := by omega
  rcases hcase with e | e
  · rw [← e] at v1 c1
    rw [c1, ← hj, v1]
  · have e2 : o + j / 2 * 2 + 1 = o + j := by omega
    rw [← e] at v2
    rw [e2] at c2
    rw [c2, ← hj, v2]
theorem HoldsK.own {w : World} {B : Nat} {e : TypeId} {a : Option Addr} {n c : Nat} {ks : List KV} (h : w.ownsRow B e 2 (.slice a n c) n (keysV ks)) : HoldsK w a n ks := by
  have hl : ks.length = n := by have := h.1; rw [keysV_len] at this; omega
  refine ⟨hl, fun h0 => ?_⟩
  rcases h.2 with ⟨_, h1⟩ | ⟨g, cap, cur, hv, _, hh, hc, _, hs, hx⟩
  · omega
  · simp only [Value.slice.injEq] at hv
    obtain ⟨rfl, _, rfl⟩ := hv
    refine ⟨g, 0, rfl, fun i hi => ?_⟩
    obtain ⟨v1, v2⟩ := keysV_at ks i (by omega)
    rw [← hx] at v1 v2
    rw [List.getElem?_take_of_lt (by omega)] at v1 v2
    rw [Array.getElem?_toList] at v1 v2
    rw [Nat.zero_add, Joins.cell_of_block hh, Joins.cell_of_block hh]
    exact ⟨v1, v2⟩
theorem HoldsK.take {w : World} {a : Option Addr} {n : Nat} {ks : List KV} (h : HoldsK w a n ks) (k : Nat) (hk : k ≤ n) : HoldsK w a k (ks.take k) := by
  have hl := h.len
  refine ⟨by simp; omega, fun h0 => ?_⟩
  obtain ⟨b, o, ha, hc⟩ := h.at (by omega)
  refine ⟨b, o, ha, fun i hi => ?_⟩
  have e : (ks.take k).getD i k0 = ks.getD i k0 := by simp [List.getD_eq_getElem?_getD, List.getElem?_take_of_lt hi]
  rw [e]; exact hc i (by omega)
theorem HoldsK.drop {w : World} {b o n : Nat} {ks : List KV} (h : HoldsK w (some ⟨b, o, none⟩) n ks) (k : Nat) (hk : k ≤ n) : HoldsK w (some ⟨b, o + k * 2, none⟩) (n - k) (ks.drop k) := by
  have hl := h.len
  refine ⟨by simp; omega, fun h0 => ?_⟩
  obtain ⟨b', o', ha, hc⟩ := h.at (by omega)
  cases ha
  refine ⟨b, o + k * 2, rfl, fun i hi => ?_⟩
  have e : (ks.drop k).getD i k0 = ks.getD (k + i) k0 := by simp [List.getD_eq_getElem?_getD]
  obtain ⟨c1, c2⟩ := hc (k + i) (by omega)
  rw [e]
  have e1 : o + k * 2 + i * 2 = o + (k + i) * 2 := by omega
  rw [e1]; exact ⟨c1, c2⟩
theorem HoldsK.cellsAny {w : World} {a : Option Addr} {n : Nat} {ks : List KV} (h : HoldsK w a n ks) {w' : World} (hg : w.grownBy w' none) : ∀ ad, a = some ad → ∀ j u, (keysV ks)[j]? = some u → w'.cell? (ad.add j) = some u := by
  intro ad ha j u hj
  have hjl : j < (keysV ks).length := (List.getElem?_eq_some_iff.1 hj).1
  rw [keysV_len] at hjl
  obtain ⟨b, o, hb, _⟩ := h.at (by have := h.len; omega)
  rw [ha] at hb
  obtain rfl := Option.some.inj hb
  subst ha
  exact hg.cell (h.cells j u hj) (by simp)
/-- Block B is a row of n + 3 pairs that may be written: the first n hold ks, of the three behind them the first k hold the mark. -/
def Roomy2 (w : World) (B : Nat) (e : TypeId) (n : Nat) (ks : List KV) (k : Nat) : Prop :=
  ∃ cs : Array Value, w.heap[B]? = some (.cells cs e (0, 0)) ∧ cs.size = (n + 3) * 2 ∧ (∀ i, i < n → cs[i * 2]? = some (.int .i64 (ks.getD i k0).1) ∧ cs[i * 2 + 1]? = some (.string (ks.getD i k0).2)) ∧ ∀ i, i < k → cs[n * 2 + i * 2]? = some (.int .i64 (-7)) ∧ cs[n * 2 + i * 2 + 1]? = some (.string ⟨#[]⟩)
theorem roomy2_of_own {w : World} {base B : Nat} {e : TypeId} {n : Nat} {ks : List KV} (hl : ks.length = n) (h : w.ownsRow base e 2 (.slice (some ⟨B, 0, none⟩) n (n + 3)) n (keysV ks)) : Roomy2 w B e n ks 0 := by
  rcases h.2 with ⟨h0, _⟩ | ⟨g, cap, cur, hv, _, hh, _, _, hs, hx⟩
  · cases h0
  · simp only [Value.slice.injEq, Option.some.injEq, Addr.mk.injEq, and_true, true_and] at hv
    obtain ⟨rfl, rfl⟩ := hv
    refine ⟨cur, hh, by omega, fun i hi => ?_, fun i hi => by omega⟩
    obtain ⟨v1, v2⟩ := keysV_at ks i (by omega)
    rw [← hx] at v1 v2
    rw [List.getElem?_take_of_lt (by omega)] at v1 v2
    rw [Array.getElem?_toList] at v1 v2
    exact ⟨v1, v2⟩
theorem Roomy2.holds {w : World} {B : Nat} {e : TypeId} {n : Nat} {ks : List KV} {k : Nat} (h : Roomy2 w B e n ks k) (hl : ks.length = n) : HoldsK w (some ⟨B, 0, none⟩) n ks := by
  obtain ⟨cs, h1, _, h3, _⟩ := h
  refine ⟨hl, fun _ => ⟨B, 0, rfl, fun i hi => ?_⟩⟩
  rw [Nat.zero_add, Joins.cell_of_block h1, Joins.cell_of_block h1]
  exact h3 i hi
theorem Roomy2.room {w : World} {B : Nat} {e : TypeId} {n : Nat} {ks : List KV} {k : Nat} (h : Roomy2 w B e n ks k) (i : Nat) (hi : i < k) : w.cell? ⟨B, n * 2 + i * 2, none⟩ = some (.int .i64 (-7)) ∧ w.cell? ⟨B, n * 2 + i * 2 + 1, none⟩ = some (.string ⟨#[]⟩) := by
  obtain ⟨cs, h1, _, _, h4⟩ := h
  rw [Joins.cell_of_block h1, Joins.cell_of_block h1]; exact h4 i hi
theorem Roomy2.there {w : World} {B : Nat} {e : TypeId} {n : Nat} {ks : List KV} {k : Nat} (h : Roomy2 w B e n ks k) (i : Nat) (hi : i < (n + 3) * 2) : ∃ v, w.cell? ⟨B, i, none⟩ = some v := by
  obtain ⟨cs, h1, h2, _, _⟩ := h
  exact ⟨cs[i]'(by omega), by rw [Joins.cell_of_block h1, Array.getElem?_eq_getElem (by omega)]⟩
theorem Roomy2.free {w : World} {B : Nat} {e : TypeId} {n : Nat} {ks : List KV} {k : Nat} (h : Roomy2 w B e n ks k) (i : Nat) : w.frozen? ⟨B, i, none⟩ = false := by
  obtain ⟨cs, h1, _, _, _⟩ := h
  exact Joins.unfrozen_of_block h1 i
theorem Roomy2.put {w : World} {B : Nat} {e : TypeId} {n : Nat} {ks : List KV} {k : Nat} (h : Roomy2 w B e n ks k) (hk : k < 3) : Roomy2 ((w.setCell ⟨B, n * 2 + k * 2, none⟩ (.int .i64 (-7))).setCell ⟨B, n * 2 + k * 2 + 1, none⟩ (.string ⟨#[]⟩)) B e n ks (k + 1) := by
  obtain ⟨cs, h1, h2, h3, h4⟩ := h
  refine ⟨_, Joins.block_setCell (Joins.block_setCell h1 _) _, by simpa using h2, fun i hi => ?_, fun i hi => ?_⟩
  · simp only [Array.getElem?_setIfInBounds]
    rw [if_neg (by omega), if_neg (by omega), if_neg (by omega), if_neg (by omega)]; exact h3 i hi
  · by_cases e1 : i = k
    · subst e1
      simp only [Array.getElem?_setIfInBounds, Array.size_setIfInBounds]
      constructor
      · rw [if_neg (by omega), if_pos trivial, if_pos (by omega)]
      · rw [if_pos trivial, if_pos (by omega)]
    · simp only [Array.getElem?_setIfInBounds]
      rw [if_neg (by omega), if_neg (by omega), if_neg (by omega), if_neg (by omega)]; exact h4 i (by omega)
theorem Roomy2.below {w w' : World} {B : Nat} {e : TypeId} {n : Nat} {ks : List KV} {k : Nat} (h : Roomy2 w B e n ks k) (hb : Below w.heap.size w w') : Roomy2 w' B e n ks k := by
  obtain ⟨cs, h1, h2⟩ := h
  exact ⟨cs, by rw [hb.block B (Array.getElem?_eq_some_iff.1 h1).1]; exact h1, h2⟩
end Go.Proofs.Ytolggcdlpiedmaa
/- the document's order of items: Less, Put, Sort -/
namespace Go.Proofs.Ytolggcdlpiedmaa
open Go.RowKit
set_option linter.unusedVariables false
set_option maxRecDepth 20000
theorem rcompare_lit (x y : Tx) (v : Int) (w : World) (hx : x.size ≤ 1048576) (hy : y.size ≤ 1048576) (hv : cmpS x y = v) :
    Calls Try.prog 66 #[.string x, .string y] w fun e w' => e = .returned (.int .i64 v) ∧ Below w.heap.size w w' := by subst hv; exact rcompare_any x y w hx hy
theorem rlessI_any (a b : KV) (w : World) (ha : a.2.size ≤ 1048576) (hb : b.2.size ≤ 1048576) :
    Calls Try.prog 42 #[keyV a, keyV b] w fun e w' => e = .returned (.bool (lessK a b)) ∧ Below w.heap.size w w' := by
  obtain ⟨c, hc⟩ : ∃ c, lessK a b = c := ⟨_, rfl⟩
  rw [hc]
  have hc2 : c = true ↔ (a.1 < b.1 ∨ (a.1 = b.1 ∧ cmpS a.2 b.2 < 0)) := by rw [← ordK_lt, ← hc]; exact decide_eq_true_iff
  clear hc
  obtain ⟨a1, a2⟩ := a
  obtain ⟨b1, b2⟩ := b
  simp only at hc2 ha hb
  unfold keyV
  simp only
  have BB := Lib.hid ((Below.refl w.heap.size w).alloc (Nat.le_refl _) (.cells #[.int .i64 a1, .string a2] 24) |>.alloc (by simp) (.cells #[.int .i64 b1, .string b2] 24))
  rcases Int.lt_trichotomy a1 b1 with h | h | h
  · obtain rfl : c = true := hc2.2 (Or.inl h)
    have g1 : decide (a1 < b1) = true := decide_eq_true h
    clear hc2
    go_enter Try.func42, Try.ntmps42
    go_wp2_with fail
    go_ret
    exact ⟨rfl, BB.out⟩
  · subst h
    have g1 : decide (a1 < a1) = false := by simp
    have g2 : (a1 == a1) = true := by simp
    obtain ⟨v, hv⟩ : ∃ v, cmpS a2 b2 = v := ⟨_, rfl⟩
    rw [hv] at hc2
    have HV := Lib.hid hv
    have hcv : c = decide (v < 0) := by
      cases c
      · symm; rw [decide_eq_false_iff_not]; intro h; exact absurd (hc2.2 (Or.inr ⟨rfl, h⟩)) (by simp)
      · symm; rw [decide_eq_true_iff]; rcases hc2.1 rfl with h | h; omega; exact h.2
    subst hcv
    clear hc2 hv
    go_enter Try.func42, Try.ntmps42
    go_wp2_with fail
    refine (rcompare_lit a2 b2 v _ ha hb HV.out).mono ?_
    rintro e w' ⟨rfl, hb2⟩
    go_wp2_with fail
    go_ret
    exact ⟨rfl, BB.out.trans (hb2.mono BB.out.size)⟩
  · obtain rfl : c = false := by
      cases c
      · rfl
      · rcases hc2.1 rfl with h2 | h2 <;> omega
    have g1 : decide (a1 < b1) = false := by rw [decide_eq_false_iff_not]; omega
    have g2 : (a1 == b1) = false := by rw [beq_eq_false_iff_ne]; omega
    clear hc2
    go_enter Try.func42, Try.ntmps42
    go_wp2_with fail
    go_ret
    exact ⟨rfl, BB.out⟩
theorem rlessI_lit (a b : KV) (c : Bool) (w : World) (ha : a.2.size ≤ 1048576) (hb : b.2.size ≤ 1048576) (hc : lessK a b = c) :
    Calls Try.prog 42 #[keyV a, keyV b] w fun e w' => e = .returned (.bool c) ∧ Below w.heap.size w w' := by subst hc; exact rlessI_any a b w ha hb
theorem item_info : (Try.prog.info? 24).map (fun i => (i.zero, i.size, i.bytes)) = some (some (.agg #[.int .i64 0, .string ⟨#[]⟩]), 2, 24) := by kernel_rfl
/-- a new slice of these items -/
def RetI (w : World) (ys : List KV) (e : Ending) (w' : World) : Prop := ∃ a c, e = .returned (.slice a ys.length c) ∧ w'.ownsRow w.heap.size 24 2 (.slice a ys.length c) ys.length (keysV ys) ∧ Below w.heap.size w w'
theorem retI_own {w w' : World} {a : Option Addr} {c n : Nat} {ys zs : List KV} (h : ys = zs) (hn : ys.length = n) (hh : w'.ownsRow w.heap.size 24 2 (.slice a n c) n (keysV ys)) (hb : Below w.heap.size w w') (v : Value) (hv : v = .slice a n c) : RetI w zs (.returned v) w' := by
  subst h hn hv; exact ⟨a, c, rfl, hh, hb⟩
open Go.ChangeShapes Go.WideShapes Go.ChangeAt in
theorem two_new (w : World) (u v : Value) (e : TypeId) (fr : Nat × Nat) : ∀ ad, (some ⟨w.heap.size, 0, none⟩ : Option Addr) = some ad → ∀ j x, [u, v][j]? = some x → (w.alloc (.cells #[u, v] e fr)).cell? (ad.add j) = some x := by
  intro ad had j x hx
  obtain rfl := Option.some.inj had
  match j, hx with
  | 0, hx =>
    simp at hx; subst hx
    rw [add_plain, World.cell?_alloc_mark]; rfl
  | 1, hx =>
    simp at hx; subst hx
    rw [add_plain, World.cell?_alloc_mark]; rfl
theorem two_one (z : Int) (s : Tx) : ∀ u ∈ [Value.int .i64 z, .string s], u.oneCell' = true := by simp [Value.oneCell']
theorem keysV_snoc (ks : List KV) (k : KV) : keysV (ks ++ [k]) = keysV ks ++ [.int .i64 k.1, .string k.2] := by rw [keysV_app]; rfl
theorem drop_getD (l : List KV) (i : Nat) (h : i < l.length) : l.drop i = l.getD i k0 :: l.drop (i + 1) := by
  rw [List.drop_eq_getElem_cons h]; simp [List.getD_eq_getElem?_getD, h]
theorem _root_.Go.World.ownsRow.mono' {w : World} {base B : Nat} {e : TypeId} {size : Nat} {v : Value} {n : Nat} {xs : List Value} (h : w.ownsRow base e size v n xs) (hB : B ≤ base) : w.ownsRow B e size v n xs := by
  obtain ⟨h1, h2⟩ := h
  refine ⟨h1, ?_⟩
  rcases h2 with ⟨h2, h3⟩ | ⟨g, cap, cur, h2, h3, h4⟩
  · exact Or.inl ⟨h2, h3⟩
  · exact Or.inr ⟨g, cap, cur, h2, Nat.le_trans hB h3, h4⟩
/-- what the document's Put has so far -/
def PutInv (x : KV) (l : List KV) (i : Nat) (f : Bool) (P : List KV) : Prop :=
  (f = true ∧ P ++ l.drop i = putK x l) ∨ (f = false ∧ P = l.take i ∧ putK x l = l.take i ++ putK x (l.drop i))
theorem putInv_start (x : KV) (l : List KV) : PutInv x l 0 false [] := Or.inr ⟨rfl, rfl, by simp⟩
theorem putInv_true {x : KV} {l : List KV} {i : Nat} {P : List KV} (h : PutInv x l i true P) (hi : i < l.length) : PutInv x l (i + 1) true (P ++ [l.getD i k0]) := by
  rcases h with ⟨_, h⟩ | ⟨h, _⟩
  · rw [drop_getD l i hi] at h
    exact Or.inl ⟨rfl, by rw [← h]; simp⟩
  · cases h
theorem putInv_lt {x : KV} {l : List KV} {i : Nat} {P : List KV} (h : PutInv x l i false P) (hi : i < l.length) (hlt : ordK x (l.getD i k0) < 0) : PutInv x l (i + 1) true (P ++ [x] ++ [l.getD i k0]) := by
  rcases h with ⟨h, _⟩ | ⟨_, h, h2⟩
  · cases h
  · refine Or.inl ⟨rfl, ?_⟩
    rw [h2, drop_getD l i hi, h]
    simp only [putK, if_pos hlt]
    simp
theorem putInv_ge {x : KV} {l : List KV} {i : Nat} {P : List KV} (h : PutInv x l i false P) (hi : i < l.length) (hlt : ¬ ordK x (l.getD i k0) < 0) : PutInv x l (i + 1) false (P ++ [l.getD i k0]) := by
  rcases h with ⟨h, _⟩ | ⟨_, h, h2⟩
  · cases h
  · refine Or.inr ⟨rfl, by rw [h, take_succ_getD l k0 i hi], ?_⟩
    rw [h2, drop_getD l i hi, take_succ_getD l k0 i hi]
    simp only [putK, if_neg hlt]
    simp
theorem putInv_end {x : KV} {l : List KV} {f : Bool} {P : List KV} (h : PutInv x l l.length f P) : putK x l = if f = true then P else P ++ [x] := by
  rcases h with ⟨rfl, h⟩ | ⟨rfl, h, h2⟩
  · simpa using h.symm
  · rw [h2, h]; simp [putK]
def Box4r (w0 : World) (p b o : Nat) (v0 v1 v2 v3 : Value) (w : World) : Prop := Below w0.heap.size w0 w ∧ w.cell? ⟨p, 0, none⟩ = some v0 ∧ w.cell? ⟨p, 1, none⟩ = some v1 ∧ w.cell? ⟨b, o, none⟩ = some v2 ∧ w.cell? ⟨b, o + 1, none⟩ = some v3
theorem box4r_carry {w0 w w' : World} {p b o : Nat} {v0 v1 v2 v3 : Value} (h : Box4r w0 p b o v0 v1 v2 v3 w) (hb : Below w.heap.size w w') : Box4r w0 p b o v0 v1 v2 v3 w' :=
  ⟨h.1.trans (hb.mono h.1.size), by rw [hb.cell (p := ⟨p, 0, none⟩) (lt_of_cell h.2.1)]; exact h.2.1, by rw [hb.cell (p := ⟨p, 1, none⟩) (lt_of_cell h.2.1)]; exact h.2.2.1, by rw [hb.cell (p := ⟨b, o, none⟩) (lt_of_cell h.2.2.2.1)]; exact h.2.2.2.1, by rw [hb.cell (p := ⟨b, o + 1, none⟩) (lt_of_cell h.2.2.2.1)]; exact h.2.2.2.2⟩
set_option maxHeartbeats 3200000 in
theorem rput_any (a : Option Addr) (n cap : Nat) (l : List KV) (x : KV) (w : World) (hh : HoldsK w a n l) (hn : n ≤ 100000) (hl : ∀ k ∈ l, k.2.size ≤ 1048576) (hx : x.2.size ≤ 1048576) :
    Calls Try.prog 65 #[.slice a n cap, keyV x] w (RetI w (putK x l)) := by
  obtain ⟨i0, hi, hz0, hz1, hz2⟩ := info_parts item_info
  have hll := hh.len
  obtain ⟨x1, x2⟩ := x
  unfold keyV
  simp only at hx ⊢
  have HH := Lib.hid hh; have HL := Lib.hid hl
  clear hh hl
  go_enter Try.func65, Try.ntmps65
  go_wp2_with fail
  have B1 := Lib.hid (below_one w (.cells #[.int .i64 x1, .string x2] 24))
  have XA := Lib.hid (show (w.alloc (.cells #[.int .i64 x1, .string x2] 24)).cell? ⟨w.heap.size, 0, none⟩ = some (.int .i64 x1) ∧ (w.alloc (.cells #[.int .i64 x1, .string x2] 24)).cell? ⟨w.heap.size, 1, none⟩ = some (.string x2) from ⟨by simp, by simp⟩)
  have S1 : w.heap.size + 1 = (w.alloc (.cells #[.int .i64 x1, .string x2] 24)).heap.size := by simp
  generalize w.alloc (.cells #[.int .i64 x1, .string x2] 24) = w1 at *
  have S2 := Lib.hid S1
  clear S1
  go_loopw [5, 6, 7] (fun ov fv iv wr => ∃ (j : Nat) (P : List KV) (f : Bool) (av : Option Addr) (cv : Nat), j ≤ n ∧ P.length ≤ j + 1 ∧ iv = .int .i64 j ∧ fv = .bool f ∧ ov = .slice av P.length cv ∧ Hid (PutInv (x1, x2) l j f P) ∧ Hid (wr.ownsRow w1.heap.size 24 2 (.slice av P.length cv) P.length (keysV P)) ∧ Hid (Below w1.heap.size w1 wr)) (fun _ _ iv _ => n - (intOf iv).toNat)
  case atStart => exact ⟨0, [], false, none, 0, by omega, by simp, rfl, rfl, rfl, Lib.hid (putInv_start _ _), Lib.hid (World.ownsRow_nil _ _ _ _), Lib.hid (Below.refl _ _)⟩
  case round =>
    obtain ⟨j, P, f, av, cv, hj, hPl, rfl, rfl, rfl, hI, hO, hB⟩ := hrel
    by_cases hlt : j < n
    · obtain ⟨bb, o, rfl, hc⟩ := HH.out.at (by omega)
      obtain ⟨g0, g1⟩ := hc j hlt
      have hbb : bb < w1.heap.size := by have := lt_of_cell g0; have := S2.out; omega
      have BW := B1.out.trans (hB.out.mono B1.out.size)
      have c0 := (BW.cell (p := ⟨bb, o + j * 2, none⟩) (lt_of_cell g0)).trans g0
      have c1 := (BW.cell (p := ⟨bb, o + j * 2 + 1, none⟩) (lt_of_cell g0)).trans g1
      clear g0 g1 BW
      have hmem := HL.out _ (getD_memK l j (by omega))
      have it := Lib.hid (fun P (h : PutInv (x1, x2) l j true P) => putInv_true h (by omega))
      have il := Lib.hid (fun P (h : PutInv (x1, x2) l j false P) => putInv_lt h (by omega))
      have ig := Lib.hid (fun P (h : PutInv (x1, x2) l j false P) => putInv_ge h (by omega))
      obtain ⟨y, hy⟩ : ∃ y, l.getD j k0 = y := ⟨_, rfl⟩
      rw [hy] at c0 c1 hmem
      simp only [hy] at it il ig
      obtain ⟨y1, y2⟩ := y
      simp only at c0 c1 hmem
      clear hc hy
      have T := Lib.hid (show Box4r wr w.heap.size bb (o + j * 2) (.int .i64 x1) (.string x2) (.int .i64 y1) (.string y2) wr from ⟨Below.refl _ _, by rw [hB.out.cell (p := ⟨w.heap.size, 0, none⟩) (by have := S2.out; show w.heap.size < _; omega)]; exact XA.out.1, by rw [hB.out.cell (p := ⟨w.heap.size, 1, none⟩) (by have := S2.out; show w.heap.size < _; omega)]; exact XA.out.2, c0, c1⟩)
      clear c0 c1
      cases f with
      | true =>
        obtain ⟨-, -, -, c0, c1⟩ := T.out
        have PI := Lib.hid (it.out P hI.out)
        clear hI it il ig
        go_upto_region 6 with fail
        go_quiet (fail)
        have OD := Lib.hid (owns_below hO.out (below_drewN wr nq))
        have BD := Lib.hid (hB.out.trans ((below_drewN wr nq).mono hB.out.size))
        have d0 : (wr.drewN nq).cell? ⟨bb, o + j * 2, none⟩ = some (.int .i64 y1) := c0
        have d1 : (wr.drewN nq).cell? ⟨bb, o + j * 2 + 1, none⟩ = some (.string y2) := c1
        generalize wr.drewN nq = wd at *
        clear c0 c1 T hO hB
        have hsz := BD.out.size
        go_wp2_with (at_builtin; refine wpList_append_any rfl (.tmp 28) (.tmp 33) 31 rfl w1.heap.size 24 i0 _ 2 24 Try.underlying31 hi hz0 hz1 hz2 rfl (by decide) _ P.length _ rfl (OD.out.alloc _) _ 1 1 [.int .i64 y1, .string y2] rfl (some_none _) rfl (two_new _ _ _ _ _) (two_one _ _) (by unfold maxLen; omega) (by omega) (by simp; omega) ?_; intro a3 c3 w3 hown3 hb3 hnil3)
        rw [show keysV P ++ [.int .i64 y1, .string y2] = keysV (P ++ [(y1, y2)]) from (keysV_snoc P (y1, y2)).symm] at hown3
        have O3 := Lib.hid hown3
        have B3 := Lib.hid ((BD.out.alloc BD.out.size _).trans hb3)
        clear hown3 hb3 hnil3
        go_roundw
        case rel => exact ⟨j + 1, P ++ [(y1, y2)], true, a3, c3, by omega, by simp; omega, by go_num, rfl, by simp, PI, Lib.hid (by have := O3.out; simpa using this), B3⟩
        case measure => simp [intOf]; omega
      | false =>
        obtain ⟨c, hc⟩ : ∃ c, lessK (x1, x2) (y1, y2) = c := ⟨_, rfl⟩
        have RL := Lib.hid (fun w => rlessI_lit (x1, x2) (y1, y2) c w hx hmem hc)
        unfold keyV at RL
        simp only at RL
        have hOD := Lib.hid (fun w2 (h : Below wr.heap.size wr w2) => owns_below hO.out h)
        have hBD := Lib.hid (fun w2 (h : Below wr.heap.size wr w2) => hB.out.trans (h.mono hB.out.size))
        go_upto_region 6 with fail
        cases c with
        | true =>
          have hPj : P.length ≤ j := by
            rcases hI.out with ⟨h, _⟩ | ⟨_, h, _⟩
            · cases h
            · rw [h]; simp; omega
          have PI := Lib.hid (il.out P hI.out (by unfold lessK at hc; exact of_decide_eq_true hc))
          clear hI it il ig hc
          go_region_held3 (fun w' => Below wr.heap.size wr w' ∧ w'.cell? ⟨w.heap.size, 0, none⟩ = some (.int .i64 x1) ∧ w'.cell? ⟨w.heap.size, 1, none⟩ = some (.string x2) ∧ w'.cell? ⟨bb, o + j * 2, none⟩ = some (.int .i64 y1) ∧ w'.cell? ⟨bb, o + j * 2 + 1, none⟩ = some (.string y2))
            (first | assumption | exact box4r_carry T.out (Below.refl _ _).drew | exact box4r_carry (by assumption) (by assumption))
            ((go_at_call 42; (with_reducible refine (RL.out _).mono ?_); rintro e w' ⟨rfl, hb⟩))
          rename_i TT
          obtain ⟨hbl, d0, d1, d2, d3⟩ := TT
          have OD := Lib.hid (hOD.out _ hbl)
          have BD := Lib.hid (hBD.out _ hbl)
          clear hb hbl T hO hB hOD hBD
          have hsz := BD.out.size
          go_wp2_with (first
            | (at_builtin; refine wpList_append_any rfl (.tmp 24) (.tmp 26) 31 rfl w1.heap.size 24 i0 _ 2 24 Try.underlying31 hi hz0 hz1 hz2 rfl (by decide) _ P.length _ rfl (OD.out.alloc _) _ 1 1 [.int .i64 x1, .string x2] rfl (some_none _) rfl (two_new _ _ _ _ _) (two_one _ _) (by unfold maxLen; omega) (by omega) (by simp; omega) ?_; intro a3 c3 w3 hown3 hb3 hnil3; have e2 : w3.cell? ⟨bb, o + j * 2, none⟩ = some (.int .i64 y1) := (((hb3.cell (p := ⟨bb, o + j * 2, none⟩) hbb).trans ((below_one _ _).cell (p := ⟨bb, o + j * 2, none⟩) (Nat.lt_of_lt_of_le hbb hsz))).trans d2); have e3 : w3.cell? ⟨bb, o + j * 2 + 1, none⟩ = some (.string y2) := (((hb3.cell (p := ⟨bb, o + j * 2 + 1, none⟩) hbb).trans ((below_one _ _).cell (p := ⟨bb, o + j * 2 + 1, none⟩) (Nat.lt_of_lt_of_le hbb hsz))).trans d3); have B3 := Lib.hid ((BD.out.alloc BD.out.size _).trans hb3); have hsz3 := B3.out.size; have O3 := Lib.hid hown3; clear hown3 hb3 hnil3)
            | (at_builtin; refine wpList_append_any rfl (.tmp 28) (.tmp 33) 31 rfl w1.heap.size 24 i0 _ 2 24 Try.underlying31 hi hz0 hz1 hz2 rfl (by decide) _ (P.length + 1) _ rfl (O3.out.alloc _) _ 1 1 [.int .i64 y1, .string y2] rfl (some_none _) rfl (two_new _ _ _ _ _) (two_one _ _) (by unfold maxLen; omega) (by omega) (by simp; omega) ?_; intro a5 c5 w5 hown5 hb5 hnil5))
          rw [show keysV P ++ [.int .i64 x1, .string x2] ++ [.int .i64 y1, .string y2] = keysV (P ++ [(x1, x2)] ++ [(y1, y2)]) by rw [keysV_snoc, keysV_snoc]] at hown5
          have O5 := Lib.hid hown5
          have B5 := Lib.hid ((B3.out.alloc B3.out.size _).trans hb5)
          clear hown5 hb5 hnil5
          go_roundw
          case rel => exact ⟨j + 1, P ++ [(x1, x2)] ++ [(y1, y2)], true, a5, c5, by omega, by simp; omega, by go_num, rfl, by simp, PI, Lib.hid (by have := O5.out; simpa [Nat.add_assoc] using this), B5⟩
          case measure => simp [intOf]; omega
        | false =>
          have PI := Lib.hid (ig.out P hI.out (by unfold lessK at hc; exact of_decide_eq_false hc))
          clear hI it il ig hc
          go_region_held3 (fun w' => Below wr.heap.size wr w' ∧ w'.cell? ⟨w.heap.size, 0, none⟩ = some (.int .i64 x1) ∧ w'.cell? ⟨w.heap.size, 1, none⟩ = some (.string x2) ∧ w'.cell? ⟨bb, o + j * 2, none⟩ = some (.int .i64 y1) ∧ w'.cell? ⟨bb, o + j * 2 + 1, none⟩ = some (.string y2))
            (first | assumption | exact box4r_carry T.out (Below.refl _ _).drew | exact box4r_carry (by assumption) (by assumption))
            ((go_at_call 42; (with_reducible refine (RL.out _).mono ?_); rintro e w' ⟨rfl, hb⟩))
          rename_i TT
          obtain ⟨hbl, d0, d1, d2, d3⟩ := TT
          have OD := Lib.hid (hOD.out _ hbl)
          have BD := Lib.hid (hBD.out _ hbl)
          clear hb hbl T hO hB hOD hBD
          have hsz := BD.out.size
          go_wp2_with (at_builtin; refine wpList_append_any rfl (.tmp 28) (.tmp 33) 31 rfl w1.heap.size 24 i0 _ 2 24 Try.underlying31 hi hz0 hz1 hz2 rfl (by decide) _ P.length _ rfl (OD.out.alloc _) _ 1 1 [.int .i64 y1, .string y2] rfl (some_none _) rfl (two_new _ _ _ _ _) (two_one _ _) (by unfold maxLen; omega) (by omega) (by simp; omega) ?_; intro a3 c3 w3 hown3 hb3 hnil3)
          rw [show keysV P ++ [.int .i64 y1, .string y2] = keysV (P ++ [(y1, y2)]) from (keysV_snoc P (y1, y2)).symm] at hown3
          have O3 := Lib.hid hown3
          have B3 := Lib.hid ((BD.out.alloc BD.out.size _).trans hb3)
          clear hown3 hb3 hnil3
          go_roundw
          case rel => exact ⟨j + 1, P ++ [(y1, y2)], false, a3, c3, by omega, by simp; omega, by go_num, rfl, by simp, PI, Lib.hid (by have := O3.out; simpa using this), B3⟩
          case measure => simp [intOf]; omega
    · obtain rfl : j = n := by omega
      have PE := Lib.hid (putInv_end (hll ▸ hI.out))
      have BW := Lib.hid (B1.out.trans (hB.out.mono B1.out.size))
      have hsz := hB.out.size
      have hs2 := S2.out
      have T0 := XA.out
      have t0 : wr.cell? ⟨w.heap.size, 0, none⟩ = some (.int .i64 x1) := by rw [hB.out.cell (p := ⟨w.heap.size, 0, none⟩) (by show w.heap.size < _; omega)]; exact T0.1
      have t1 : wr.cell? ⟨w.heap.size, 1, none⟩ = some (.string x2) := by rw [hB.out.cell (p := ⟨w.heap.size, 1, none⟩) (by show w.heap.size < _; omega)]; exact T0.2
      clear T0 hs2
      cases f with
      | true =>
        rw [if_pos rfl] at PE
        go_wp2_with fail
        go_ret
        exact retI_own PE.out.symm rfl (hO.out.mono' (by have := S2.out; omega)) BW.out _ rfl
      | false =>
        rw [if_neg (by simp)] at PE
        go_wp2_with (at_builtin; refine wpList_append_any rfl (.tmp 37) (.tmp 39) 31 rfl w1.heap.size 24 i0 _ 2 24 Try.underlying31 hi hz0 hz1 hz2 rfl (by decide) _ P.length _ rfl (hO.out.alloc _) _ 1 1 [.int .i64 x1, .string x2] rfl (some_none _) rfl (two_new _ _ _ _ _) (two_one _ _) (by unfold maxLen; omega) (by omega) (by simp; omega) ?_; intro a3 c3 w3 hown3 hb3 hnil3)
        rw [show keysV P ++ [.int .i64 x1, .string x2] = keysV (P ++ [(x1, x2)]) from (keysV_snoc P (x1, x2)).symm] at hown3
        have O3 := Lib.hid hown3
        have B3 := Lib.hid ((hB.out.alloc hB.out.size _).trans hb3)
        clear hown3 hb3 hnil3
        go_ret
        exact retI_own PE.out.symm (by simp) (O3.out.mono' (by have := S2.out; omega)) (B1.out.trans (B3.out.mono B1.out.size)) _ rfl
end Go.Proofs.Ytolggcdlpiedmaa
/- contract of the document's 'one'; it is the runes that a range yields -/
namespace Go.Proofs.Ytolggcdlpiedmaa
open Go.RowKit
set_option linter.unusedVariables false
set_option maxRecDepth 20000
def oneV (s : ByteArray) (i : Nat) : Int × Int :=
  if byteS s i < 128 then ((byteS s i : Int), 1)
  else if (194 ≤ byteS s i ∧ byteS s i ≤ 223) ∧ moreP s (i + 1) then (((byteS s i : Int) - 192) * 64 + moreV s (i + 1), 2)
  else if (224 ≤ byteS s i ∧ byteS s i ≤ 239) ∧ moreP s (i + 1) ∧ moreP s (i + 2) then (((byteS s i : Int) - 224) * 4096 + moreV s (i + 1) * 64 + moreV s (i + 2), 3)
  else if (240 ≤ byteS s i ∧ byteS s i ≤ 244) ∧ moreP s (i + 1) ∧ moreP s (i + 2) ∧ moreP s (i + 3) then (((byteS s i : Int) - 240) * 262144 + moreV s (i + 1) * 4096 + moreV s (i + 2) * 64 + moreV s (i + 3), 4)
  else (0, 0)
theorem moreV_bd (s : ByteArray) (i : Nat) : 0 ≤ moreV s i ∧ moreV s i ≤ 63 := by
  unfold moreV
  split
  · rename_i h; unfold moreP at h; omega
  · omega
theorem more_lit (s : ByteArray) (i : Nat) (k : Int) (w : World) (hs : s.size ≤ 1048576) (hi : i ≤ 1048580) (p : Bool) (v : Int) (hk : (i : Int) = k) (hp : decide (moreP s i) = p) (hv : moreV s i = v) :
    Calls Try.prog 121 #[.string s, .int .i64 k] w fun e w' => e = .returned (.tuple #[.int .i32 v, .bool p]) ∧ w = w' := by
  subst hp hv hk; exact more_any s i w hs hi
def badP (r n : Int) : Prop := n = 0 ∨ ¬ goodP r ∨ (n = 3 ∧ r < 2048) ∨ (n = 4 ∧ r < 65536)
instance (r n : Int) : Decidable (badP r n) := by unfold badP; infer_instance
set_option maxHeartbeats 1600000 in
theorem one_decode (s : ByteArray) (i : Nat) (hi : i < s.size) :
    (badP (oneV s i).1 (oneV s i).2 → (Utf8.decode s i).1 = 65533) ∧
    (¬ badP (oneV s i).1 (oneV s i).2 → (oneV s i).1 = ((Utf8.decode s i).1 : Int) ∧ (oneV s i).2 = ((Utf8.decode s i).2 : Int) ∧ (Utf8.decode s i).1 ≠ 65533) := by
  rw [Lib.decode_at]
  have e1 : moreP s (i + 1) ↔ (1 < s.size - i ∧ 128 ≤ byteS s (i + 1) ∧ byteS s (i + 1) ≤ 191) := by unfold moreP; omega
  have e2 : moreP s (i + 2) ↔ (2 < s.size - i ∧ 128 ≤ byteS s (i + 2) ∧ byteS s (i + 2) ≤ 191) := by unfold moreP; omega
  have e3 : moreP s (i + 3) ↔ (3 < s.size - i ∧ 128 ≤ byteS s (i + 3) ∧ byteS s (i + 3) ≤ 191) := by unfold moreP; omega
  have l0 := byteS_lt s i
  have l1 := byteS_lt s (i + 1)
  have l2 := byteS_lt s (i + 2)
  have l3 := byteS_lt s (i + 3)
  unfold oneV moreV
  simp only [e1, e2, e3]
  show (_ → (Lib.decodeN (s.size - i) (byteS s i) (byteS s (i + 1)) (byteS s (i + 2)) (byteS s (i + 3))).1 = 65533) ∧ (_ → _ = ((Lib.decodeN (s.size - i) (byteS s i) (byteS s (i + 1)) (byteS s (i + 2)) (byteS s (i + 3))).1 : Int) ∧ _ = ((Lib.decodeN (s.size - i) (byteS s i) (byteS s (i + 1)) (byteS s (i + 2)) (byteS s (i + 3))).2 : Int) ∧ (Lib.decodeN (s.size - i) (byteS s i) (byteS s (i + 1)) (byteS s (i + 2)) (byteS s (i + 3))).1 ≠ 65533)
  have hn : 0 < s.size - i := by omega
  clear e1 e2 e3
  generalize s.size - i = n at *
  generalize byteS s i = b0 at *
  generalize byteS s (i + 1) = b1 at *
  generalize byteS s (i + 2) = b2 at *
  generalize byteS s (i + 3) = b3 at *
  unfold Lib.decodeN badP goodP
  by_cases h0 : b0 < 128
  · simp only [h0, if_true]
    refine ⟨fun h => ?_, fun h => ⟨?_, ?_, ?_⟩⟩ <;> first | trivial | omega
  simp only [h0, if_false]
  by_cases hA : (194 ≤ b0 ∧ b0 ≤ 223) ∧ 1 < n ∧ 128 ≤ b1 ∧ b1 ≤ 191
  · obtain ⟨⟨a1, a2⟩, a3, a4, a5⟩ := hA
    have c1 : b0 / 32 = 6 ∧ 1 < n ∧ b1 / 64 = 2 := by omega
    have c2 : b0 % 32 * 64 + b1 % 64 ≥ 128 := by omega
    rw [if_pos ⟨⟨a1, a2⟩, a3, a4, a5⟩, if_pos c1, if_pos c2, if_pos ⟨a3, a4, a5⟩]
    dsimp only
    refine ⟨fun h => ?_, fun h => ⟨?_, ?_, ?_⟩⟩ <;> omega
  rw [if_neg hA]
  by_cases hB : (224 ≤ b0 ∧ b0 ≤ 239) ∧ (1 < n ∧ 128 ≤ b1 ∧ b1 ≤ 191) ∧ 2 < n ∧ 128 ≤ b2 ∧ b2 ≤ 191
  · obtain ⟨⟨a1, a2⟩, ⟨a3, a4, a5⟩, a6, a7, a8⟩ := hB
    have c0 : ¬ (b0 / 32 = 6 ∧ 1 < n ∧ b1 / 64 = 2) := by omega
    have c1 : b0 / 16 = 14 ∧ (1 < n ∧ b1 / 64 = 2) ∧ 2 < n ∧ b2 / 64 = 2 := by omega
    rw [if_pos ⟨⟨a1, a2⟩, ⟨a3, a4, a5⟩, a6, a7, a8⟩, if_neg c0, if_pos c1, if_pos ⟨a3, a4, a5⟩, if_pos ⟨a6, a7, a8⟩]
    clear c0 c1 hA
    split
    all_goals
      dsimp only
      refine ⟨fun h => ?_, fun h => ⟨?_, ?_, ?_⟩⟩ <;> omega
  rw [if_neg hB]
  by_cases hC : (240 ≤ b0 ∧ b0 ≤ 244) ∧ (1 < n ∧ 128 ≤ b1 ∧ b1 ≤ 191) ∧ (2 < n ∧ 128 ≤ b2 ∧ b2 ≤ 191) ∧ 3 < n ∧ 128 ≤ b3 ∧ b3 ≤ 191
  · obtain ⟨⟨a1, a2⟩, ⟨a3, a4, a5⟩, ⟨a6, a7, a8⟩, a9, a10, a11⟩ := hC
    have c0 : ¬ (b0 / 32 = 6 ∧ 1 < n ∧ b1 / 64 = 2) := by omega
    have c1 : ¬ (b0 / 16 = 14 ∧ (1 < n ∧ b1 / 64 = 2) ∧ 2 < n ∧ b2 / 64 = 2) := by omega
    have c2 : b0 / 8 = 30 ∧ (1 < n ∧ b1 / 64 = 2) ∧ (2 < n ∧ b2 / 64 = 2) ∧ 3 < n ∧ b3 / 64 = 2 := by omega
    rw [if_pos ⟨⟨a1, a2⟩, ⟨a3, a4, a5⟩, ⟨a6, a7, a8⟩, a9, a10, a11⟩, if_neg c0, if_neg c1, if_pos c2, if_pos ⟨a3, a4, a5⟩, if_pos ⟨a6, a7, a8⟩, if_pos ⟨a9, a10, a11⟩]
    clear c0 c1 c2 hA hB
    split
    all_goals
      dsimp only
      refine ⟨fun h => ?_, fun h => ⟨?_, ?_, ?_⟩⟩ <;> omega
  rw [if_neg hC]
  refine ⟨fun _ => ?_, fun h => absurd (Or.inl rfl) h⟩
  by_cases d1 : b0 / 32 = 6 ∧ 1 < n ∧ b1 / 64 = 2
  · rw [if_pos d1, if_neg (by omega)]
  rw [if_neg d1]
  by_cases d2 : b0 / 16 = 14 ∧ (1 < n ∧ b1 / 64 = 2) ∧ 2 < n ∧ b2 / 64 = 2
  · omega
  rw [if_neg d2]
  by_cases d3 : b0 / 8 = 30 ∧ (1 < n ∧ b1 / 64 = 2) ∧ (2 < n ∧ b2 / 64 = 2) ∧ 3 < n ∧ b3 / 64 = 2
  · rw [if_pos d3, if_neg (by omega)]
  rw [if_neg d3]
end Go.Proofs.Ytolggcdlpiedmaa
/- contracts of the document's 'one' and Runes -/
namespace Go.Proofs.Ytolggcdlpiedmaa
open Go.RowKit
set_option linter.unusedVariables false
set_option maxRecDepth 20000
set_option maxRecDepth 100000 in
set_option maxHeartbeats 6400000 in
theorem one_any (s : ByteArray) (i : Nat) (w : World) (hs : s.size ≤ 1048576) (hi : i < s.size) :
    Calls Try.prog 108 #[.string s, .int .i64 i] w fun e w' => e = .returned (.tuple #[.int .i32 (oneV s i).1, .int .i64 (oneV s i).2]) ∧ w = w' := by
  have hx := byteS_at s i hi
  have hb := byteS_lt s i
  obtain ⟨p1, hp1⟩ : ∃ p, decide (moreP s (i + 1)) = p := ⟨_, rfl⟩
  obtain ⟨p2, hp2⟩ : ∃ p, decide (moreP s (i + 2)) = p := ⟨_, rfl⟩
  obtain ⟨p3, hp3⟩ : ∃ p, decide (moreP s (i + 3)) = p := ⟨_, rfl⟩
  have i1 : moreP s (i + 1) ↔ p1 = true := by rw [← hp1]; simp
  have i2 : moreP s (i + 2) ↔ p2 = true := by rw [← hp2]; simp
  have i3 : moreP s (i + 3) ↔ p3 = true := by rw [← hp3]; simp
  obtain ⟨A, hA⟩ : ∃ A, moreV s (i + 1) = A := ⟨_, rfl⟩
  obtain ⟨B, hB⟩ : ∃ A, moreV s (i + 2) = A := ⟨_, rfl⟩
  obtain ⟨C, hC⟩ : ∃ A, moreV s (i + 3) = A := ⟨_, rfl⟩
  have m1 := Lib.hid (more_lit s (i + 1) ((i : Int) + 1) w hs (by omega) p1 A (by omega) hp1 hA)
  have m2 := Lib.hid (more_lit s (i + 2) ((i : Int) + 2) w hs (by omega) p2 B (by omega) hp2 hB)
  have m3 := Lib.hid (more_lit s (i + 3) ((i : Int) + 3) w hs (by omega) p3 C (by omega) hp3 hC)
  have bA := moreV_bd s (i + 1); have bB := moreV_bd s (i + 2); have bC := moreV_bd s (i + 3)
  rw [hA] at bA; rw [hB] at bB; rw [hC] at bC
  unfold oneV
  simp only [i1, i2, i3]
  rw [hA, hB, hC]
  obtain ⟨x, hx2⟩ : ∃ x, byteS s i = x := ⟨_, rfl⟩
  rw [hx2] at hx hb
  rw [hx2]
  have j1 : IntKind.i64.wrap ((i : Int) + 1) = (i : Int) + 1 := IntWalk.i64_in _ (by omega)
  have j2 : IntKind.i64.wrap ((i : Int) + 2) = (i : Int) + 2 := IntWalk.i64_in _ (by omega)
  have j3 : IntKind.i64.wrap ((i : Int) + 3) = (i : Int) + 3 := IntWalk.i64_in _ (by omega)
  clear hx2 hA hB hC hp1 hp2 hp3 i1 i2 i3
  have hcase : x < 128 ∨ (128 ≤ x ∧ x < 194) ∨ (128 ≤ x ∧ 194 ≤ x ∧ x ≤ 223) ∨ (128 ≤ x ∧ 194 ≤ x ∧ 223 < x ∧ 224 ≤ x ∧ x ≤ 239) ∨ (128 ≤ x ∧ 194 ≤ x ∧ 223 < x ∧ 224 ≤ x ∧ 239 < x ∧ 240 ≤ x ∧ x ≤ 244) ∨ (128 ≤ x ∧ 194 ≤ x ∧ 223 < x ∧ 224 ≤ x ∧ 239 < x ∧ 240 ≤ x ∧ 244 < x) := by omega
  rcases hcase with c1 | ⟨c0, c1⟩ | ⟨c0, c1, c2⟩ | ⟨c0, c1, c2, c3, c4⟩ | ⟨c0, c1, c2, c3, c4, c5, c6⟩ | ⟨c0, c1, c2, c3, c4, c5, c6⟩
  · rw [if_pos c1]
    go_enter Try.func108, Try.ntmps108
    go_wp2_with fail
    refine m1.out.mono ?_
    rintro e w' ⟨rfl, rfl⟩
    go_wp2_with fail
    refine m2.out.mono ?_
    rintro e w' ⟨rfl, rfl⟩
    go_wp2_with fail
    refine m3.out.mono ?_
    rintro e w' ⟨rfl, rfl⟩
    go_wp2_with fail
    go_ret2
    exact ⟨rfl, rfl⟩
  · rw [if_neg (by omega), if_neg (by omega), if_neg (by omega), if_neg (by omega)]
    go_enter Try.func108, Try.ntmps108
    go_wp2_with fail
    refine m1.out.mono ?_
    rintro e w' ⟨rfl, rfl⟩
    go_wp2_with fail
    refine m2.out.mono ?_
    rintro e w' ⟨rfl, rfl⟩
    go_wp2_with fail
    refine m3.out.mono ?_
    rintro e w' ⟨rfl, rfl⟩
    go_wp2_with fail
    go_ret2
    exact ⟨rfl, rfl⟩
  · rw [if_neg (by omega)]
    cases p1
    · rw [if_neg (by simp), if_neg (by omega), if_neg (by omega)]
      go_enter Try.func108, Try.ntmps108
      go_wp2_with fail
      refine m1.out.mono ?_
      rintro e w' ⟨rfl, rfl⟩
      go_wp2_with fail
      refine m2.out.mono ?_
      rintro e w' ⟨rfl, rfl⟩
      go_wp2_with fail
      refine m3.out.mono ?_
      rintro e w' ⟨rfl, rfl⟩
      go_wp2_with fail
      go_ret2
      exact ⟨rfl, rfl⟩
    · rw [if_pos ⟨⟨c1, c2⟩, rfl⟩]
      go_enter Try.func108, Try.ntmps108
      go_wp2_with fail
      refine m1.out.mono ?_
      rintro e w' ⟨rfl, rfl⟩
      go_wp2_with fail
      refine m2.out.mono ?_
      rintro e w' ⟨rfl, rfl⟩
      go_wp2_with fail
      refine m3.out.mono ?_
      rintro e w' ⟨rfl, rfl⟩
      go_wp2_with fail
      go_ret2
      exact ⟨rfl, rfl⟩
  · rw [if_neg (by omega), if_neg (by omega)]
    by_cases hp : p1 = true ∧ p2 = true
    · obtain ⟨rfl, rfl⟩ := hp
      rw [if_pos ⟨⟨c3, c4⟩, rfl, rfl⟩]
      go_enter Try.func108, Try.ntmps108
      go_wp2_with fail
      refine m1.out.mono ?_
      rintro e w' ⟨rfl, rfl⟩
      go_wp2_with fail
      refine m2.out.mono ?_
      rintro e w' ⟨rfl, rfl⟩
      go_wp2_with fail
      refine m3.out.mono ?_
      rintro e w' ⟨rfl, rfl⟩
      go_wp2_with fail
      go_ret2
      exact ⟨rfl, rfl⟩
    · rw [if_neg (fun h => hp h.2), if_neg (by omega)]
      cases p1 <;> cases p2 <;> simp at hp
      all_goals
        clear hp
        go_enter Try.func108, Try.ntmps108
        go_wp2_with fail
        refine m1.out.mono ?_
        rintro e w' ⟨rfl, rfl⟩
        go_wp2_with fail
        refine m2.out.mono ?_
        rintro e w' ⟨rfl, rfl⟩
        go_wp2_with fail
        refine m3.out.mono ?_
        rintro e w' ⟨rfl, rfl⟩
        go_wp2_with fail
        go_ret2
        exact ⟨rfl, rfl⟩
  · rw [if_neg (by omega), if_neg (by omega), if_neg (by omega)]
    by_cases hp : p1 = true ∧ p2 = true ∧ p3 = true
    · obtain ⟨rfl, rfl, rfl⟩ := hp
      rw [if_pos ⟨⟨c5, c6⟩, rfl, rfl, rfl⟩]
      go_enter Try.func108, Try.ntmps108
      go_wp2_with fail
      refine m1.out.mono ?_
      rintro e w' ⟨rfl, rfl⟩
      go_wp2_with fail
      refine m2.out.mono ?_
      rintro e w' ⟨rfl, rfl⟩
      go_wp2_with fail
      refine m3.out.mono ?_
      rintro e w' ⟨rfl, rfl⟩
      go_wp2_with fail
      go_ret2
      exact ⟨rfl, rfl⟩
    · rw [if_neg (fun h => hp h.2)]
      cases p1 <;> cases p2 <;> cases p3 <;> simp at hp
      all_goals
        clear hp
        go_enter Try.func108, Try.ntmps108
        go_wp2_with fail
        refine m1.out.mono ?_
        rintro e w' ⟨rfl, rfl⟩
        go_wp2_with fail
        refine m2.out.mono ?_
        rintro e w' ⟨rfl, rfl⟩
        go_wp2_with fail
        refine m3.out.mono ?_
        rintro e w' ⟨rfl, rfl⟩
        go_wp2_with fail
        go_ret2
        exact ⟨rfl, rfl⟩
  · rw [if_neg (by omega), if_neg (by omega), if_neg (by omega), if_neg (by omega)]
    go_enter Try.func108, Try.ntmps108
    go_wp2_with fail
    refine m1.out.mono ?_
    rintro e w' ⟨rfl, rfl⟩
    go_wp2_with fail
    refine m2.out.mono ?_
    rintro e w' ⟨rfl, rfl⟩
    go_wp2_with fail
    refine m3.out.mono ?_
    rintro e w' ⟨rfl, rfl⟩
    go_wp2_with fail
    go_ret2
    exact ⟨rfl, rfl⟩
end Go.Proofs.Ytolggcdlpiedmaa
/- contract of the document's Runes of a text -/
namespace Go.Proofs.Ytolggcdlpiedmaa
open Go.RowKit
set_option linter.unusedVariables false
set_option maxRecDepth 20000
def RunesP (s : ByteArray) (w : World) (e : Ending) (w' : World) : Prop :=
  (0 ≤ lenS s ∧ ∃ a c, e = .returned (.tuple #[.slice a (runesS s).length c, .bool true]) ∧ HoldsI .i32 w' a (runesS s).length (intsN (runesS s)) ∧ (a = none → (runesS s).length = 0 ∧ c = 0) ∧ Below w.heap.size w w') ∨
  (lenS s < 0 ∧ e = .returned (.tuple #[.slice none 0 0, .bool false]) ∧ Below w.heap.size w w')
/-- the same, told by its memory -/
def RunesQ (s : ByteArray) (w : World) (e : Ending) (w' : World) : Prop :=
  (0 ≤ lenS s ∧ ∃ a c, e = .returned (.tuple #[.slice a (runesS s).length c, .bool true]) ∧ w'.ownsRow w.heap.size 21 1 (.slice a (runesS s).length c) (runesS s).length (runesV (intsN (runesS s))) ∧ Below w.heap.size w w') ∨
  (lenS s < 0 ∧ e = .returned (.tuple #[.slice none 0 0, .bool false]) ∧ Below w.heap.size w w')
theorem intsN_len (P : List Nat) : (intsN P).length = P.length := by simp [intsN]
theorem one_size (s : ByteArray) (i : Nat) : 0 ≤ (oneV s i).2 ∧ (oneV s i).2 ≤ 4 := by unfold oneV; split <;> (try split) <;> (try split) <;> (try split) <;> simp
theorem runesS_bad {s : ByteArray} {P : List Nat} {pos f : Nat} (hP : runesS s = P ++ runesN s f pos) (hlt : pos < s.size) (hf : s.size ≤ pos + f) (h : (Utf8.decode s pos).1 = 65533) : lenS s < 0 := by
  obtain ⟨g, rfl, hst, _⟩ := runesN_step s f pos hlt hf
  rw [hst, h] at hP
  rw [lenS_bad hP]; omega
set_option maxRecDepth 100000 in
set_option maxHeartbeats 6400000 in
theorem r1runesq_any (s : ByteArray) (w : World) (hs : s.size ≤ 1048576) :
    Calls Try.prog 84 #[.string s] w (RunesQ s w) := by
  obtain ⟨i0, hi, hz0, hz1, hz2⟩ := info_parts i32_info
  go_enter Try.func84, Try.ntmps84
  go_wp2_with fail
  go_loopw [4, 5] (fun lv iv wr => ∃ (pos f : Nat) (P : List Nat), s.size ≤ pos + f ∧ iv = .int .i64 pos ∧ pos ≤ s.size + 4 ∧ Hid (runesS s = P ++ runesN s f pos) ∧ Hid (∀ r ∈ P, r ≠ 65533) ∧ Hid (wr.ownsRow w.heap.size 21 1 lv P.length (runesV (intsN P))) ∧ Hid (Below w.heap.size w wr)) (fun _ iv _ => s.size - (intOf iv).toNat)
  case atStart => exact ⟨0, s.size, [], by omega, rfl, by omega, Lib.hid rfl, Lib.hid (by simp), Lib.hid (World.ownsRow_nil _ _ _ _), Lib.hid (Below.refl _ _)⟩
  case round =>
    obtain ⟨pos, f, P, hf, rfl, hpos, hP, hG, hO, hB⟩ := hrel
    by_cases hlt : pos < s.size
    · obtain ⟨d1, d2⟩ := one_decode s pos hlt
      have hbn := one_size s pos
      have hone := Lib.hid (one_any s pos wr hs hlt)
      obtain ⟨R, hR⟩ : ∃ R, (oneV s pos).1 = R := ⟨_, rfl⟩
      obtain ⟨N, hN⟩ : ∃ R, (oneV s pos).2 = R := ⟨_, rfl⟩
      rw [hR, hN] at d1 d2 hone
      rw [hN] at hbn
      clear hR hN
      have BAD := Lib.hid (fun h => runesS_bad hP.out hlt hf (d1 h))
      have GOOD := Lib.hid d2
      clear d1 d2
      have hgd := Lib.hid (good_any R wr)
      by_cases n0 : N = 0
      · have hneg := Lib.hid (BAD.out (Or.inl n0))
        have y1 : (N == 0) = true := by simp [n0]
        clear n0 hgd GOOD BAD
        go_wp2_with fail
        refine hone.out.mono ?_
        rintro e w' ⟨rfl, rfl⟩
        go_wp2_with fail
        go_ret2
        exact Or.inr ⟨hneg.out, rfl, hB.out⟩
      have y1 : (N == 0) = false := by simpa using n0
      by_cases gd : goodP R
      case neg =>
        have hneg := Lib.hid (BAD.out (Or.inr (Or.inl gd)))
        rw [decide_eq_false gd] at hgd
        clear gd GOOD BAD
        go_wp2_with fail
        refine hone.out.mono ?_
        rintro e w' ⟨rfl, rfl⟩
        go_wp2_with fail
        refine hgd.out.mono ?_
        rintro e w' ⟨rfl, rfl⟩
        go_wp2_with fail
        go_ret2
        exact Or.inr ⟨hneg.out, rfl, hB.out⟩
      rw [decide_eq_true gd] at hgd
      by_cases c3 : N = 3 ∧ R < 2048
      · have hneg := Lib.hid (BAD.out (Or.inr (Or.inr (Or.inl c3))))
        obtain ⟨c3, c4⟩ := c3
        subst c3
        clear gd GOOD BAD
        go_wp2_with fail
        refine hone.out.mono ?_
        rintro e w' ⟨rfl, rfl⟩
        go_wp2_with fail
        refine hgd.out.mono ?_
        rintro e w' ⟨rfl, rfl⟩
        go_wp2_with fail
        go_ret2
        exact Or.inr ⟨hneg.out, rfl, hB.out⟩
      by_cases c5 : N = 4 ∧ R < 65536
      · have hneg := Lib.hid (BAD.out (Or.inr (Or.inr (Or.inr c5))))
        obtain ⟨c5, c6⟩ := c5
        subst c5
        clear gd GOOD BAD
        go_wp2_with fail
        refine hone.out.mono ?_
        rintro e w' ⟨rfl, rfl⟩
        go_wp2_with fail
        refine hgd.out.mono ?_
        rintro e w' ⟨rfl, rfl⟩
        go_wp2_with fail
        go_ret2
        exact Or.inr ⟨hneg.out, rfl, hB.out⟩
      have hok := GOOD.out (fun h => by rcases h with h | h | h | h; exact n0 h; exact h gd; exact c3 h; exact c5 h)
      obtain ⟨g, rfl, hst, hg⟩ := runesN_step s f pos hlt hf
      have hwd := decode_width s pos hlt
      obtain ⟨r, hr⟩ : ∃ r, (Utf8.decode s pos).1 = r := ⟨_, rfl⟩
      obtain ⟨wd, hwd2⟩ : ∃ wd, (Utf8.decode s pos).2 = wd := ⟨_, rfl⟩
      rw [hr, hwd2] at hok hst; rw [hwd2] at hg hwd
      obtain ⟨hRr, rfl, hne⟩ := hok
      have HRr := Lib.hid hRr
      have hlen : P.length < s.size := by
        have h1 := congrArg List.length hP.out
        rw [hst, List.length_append, List.length_cons] at h1
        have := runesS_le s
        omega
      have HST := Lib.hid hst; have NE := Lib.hid hne
      have hN : wd = 1 ∨ wd = 2 ∨ wd = 3 ∨ wd = 4 := by omega
      have c3' : wd = 3 → (2048 : Int) ≤ R := by omega
      have c5' : wd = 4 → (65536 : Int) ≤ R := by omega
      clear hst hr hwd2 hne hRr GOOD BAD gd n0 c3 c5 y1
      rcases hN with hN | hN | hN | hN
      · clear c3' c5'
        subst hN
        go_wp2_with fail
        refine hone.out.mono ?_
        rintro e w' ⟨rfl, rfl⟩
        go_wp2_with fail
        refine hgd.out.mono ?_
        rintro e w' ⟨rfl, rfl⟩
        go_wp2_with (at_builtin; refine wpList_append_any rfl (.tmp 41) (.tmp 43) 83 rfl w.heap.size 21 i0 (.int .i32 0) 1 4 Try.underlying83 hi hz0 hz1 hz2 rfl (by decide) _ P.length _ rfl (hO.out.alloc _) _ 1 1 _ rfl (some_none _) rfl (one_new _ _ _ _) (one_int _ _) (by unfold maxLen; omega) (by omega) (by have := hB.out.size; simp; omega) ?_; intro a3 c3 w3 hown3 hb3 hnil3)
        rw [HRr.out, ← runesV_snoc] at hown3
        have O3 := Lib.hid hown3
        have B3 := Lib.hid ((hB.out.alloc hB.out.size _).trans hb3)
        clear hown3 hb3 hnil3 hO hB
        go_roundw
        case rel => exact ⟨pos + _, g, P ++ [r], hg, by go_num, by omega, Lib.hid (by rw [hP.out, HST.out]; simp), Lib.hid (by intro x hx; rcases List.mem_append.1 hx with hx | hx; exact hG.out x hx; simp at hx; rw [hx]; exact NE.out), by rw [List.length_append]; exact O3, B3⟩
        case measure => simp [intOf]; omega
      · clear c3' c5'
        subst hN
        go_wp2_with fail
        refine hone.out.mono ?_
        rintro e w' ⟨rfl, rfl⟩
        go_wp2_with fail
        refine hgd.out.mono ?_
        rintro e w' ⟨rfl, rfl⟩
        go_wp2_with (at_builtin; refine wpList_append_any rfl (.tmp 41) (.tmp 43) 83 rfl w.heap.size 21 i0 (.int .i32 0) 1 4 Try.underlying83 hi hz0 hz1 hz2 rfl (by decide) _ P.length _ rfl (hO.out.alloc _) _ 1 1 _ rfl (some_none _) rfl (one_new _ _ _ _) (one_int _ _) (by unfold maxLen; omega) (by omega) (by have := hB.out.size; simp; omega) ?_; intro a3 c3 w3 hown3 hb3 hnil3)
        rw [HRr.out, ← runesV_snoc] at hown3
        have O3 := Lib.hid hown3
        have B3 := Lib.hid ((hB.out.alloc hB.out.size _).trans hb3)
        clear hown3 hb3 hnil3 hO hB
        go_roundw
        case rel => exact ⟨pos + _, g, P ++ [r], hg, by go_num, by omega, Lib.hid (by rw [hP.out, HST.out]; simp), Lib.hid (by intro x hx; rcases List.mem_append.1 hx with hx | hx; exact hG.out x hx; simp at hx; rw [hx]; exact NE.out), by rw [List.length_append]; exact O3, B3⟩
        case measure => simp [intOf]; omega
      · have c6 := c3' hN
        clear c3' c5'
        subst hN
        go_wp2_with fail
        refine hone.out.mono ?_
        rintro e w' ⟨rfl, rfl⟩
        go_wp2_with fail
        refine hgd.out.mono ?_
        rintro e w' ⟨rfl, rfl⟩
        go_wp2_with (at_builtin; refine wpList_append_any rfl (.tmp 41) (.tmp 43) 83 rfl w.heap.size 21 i0 (.int .i32 0) 1 4 Try.underlying83 hi hz0 hz1 hz2 rfl (by decide) _ P.length _ rfl (hO.out.alloc _) _ 1 1 _ rfl (some_none _) rfl (one_new _ _ _ _) (one_int _ _) (by unfold maxLen; omega) (by omega) (by have := hB.out.size; simp; omega) ?_; intro a3 c3 w3 hown3 hb3 hnil3)
        rw [HRr.out, ← runesV_snoc] at hown3
        have O3 := Lib.hid hown3
        have B3 := Lib.hid ((hB.out.alloc hB.out.size _).trans hb3)
        clear hown3 hb3 hnil3 hO hB
        go_roundw
        case rel => exact ⟨pos + _, g, P ++ [r], hg, by go_num, by omega, Lib.hid (by rw [hP.out, HST.out]; simp), Lib.hid (by intro x hx; rcases List.mem_append.1 hx with hx | hx; exact hG.out x hx; simp at hx; rw [hx]; exact NE.out), by rw [List.length_append]; exact O3, B3⟩
        case measure => simp [intOf]; omega
      · have c6 := c5' hN
        clear c3' c5'
        subst hN
        go_wp2_with fail
        refine hone.out.mono ?_
        rintro e w' ⟨rfl, rfl⟩
        go_wp2_with fail
        refine hgd.out.mono ?_
        rintro e w' ⟨rfl, rfl⟩
        go_wp2_with (at_builtin; refine wpList_append_any rfl (.tmp 41) (.tmp 43) 83 rfl w.heap.size 21 i0 (.int .i32 0) 1 4 Try.underlying83 hi hz0 hz1 hz2 rfl (by decide) _ P.length _ rfl (hO.out.alloc _) _ 1 1 _ rfl (some_none _) rfl (one_new _ _ _ _) (one_int _ _) (by unfold maxLen; omega) (by omega) (by have := hB.out.size; simp; omega) ?_; intro a3 c3 w3 hown3 hb3 hnil3)
        rw [HRr.out, ← runesV_snoc] at hown3
        have O3 := Lib.hid hown3
        have B3 := Lib.hid ((hB.out.alloc hB.out.size _).trans hb3)
        clear hown3 hb3 hnil3 hO hB
        go_roundw
        case rel => exact ⟨pos + _, g, P ++ [r], hg, by go_num, by omega, Lib.hid (by rw [hP.out, HST.out]; simp), Lib.hid (by intro x hx; rcases List.mem_append.1 hx with hx | hx; exact hG.out x hx; simp at hx; rw [hx]; exact NE.out), by rw [List.length_append]; exact O3, B3⟩
        case measure => simp [intOf]; omega
    · have he : runesS s = P := by rw [hP.out, runesN_end s f pos hlt, List.append_nil]
      have HE := Lib.hid he
      clear he
      obtain ⟨a4, c4, rfl⟩ : ∃ a4 c4, u4 = .slice a4 P.length c4 := by
        rcases hO.out.2 with ⟨h, h0⟩ | ⟨g', c', cur, h, _⟩
        · exact ⟨none, 0, by rw [h, h0]⟩
        · exact ⟨_, c', h⟩
      have hgood := lenS_good (s := s) (by rw [HE.out]; exact hG.out)
      have HG2 := Lib.hid hgood
      clear hgood
      go_wp2_with fail
      go_ret2
      exact Or.inl ⟨by rw [HG2.out]; omega, a4, c4, by rw [HE.out]; rfl, by rw [HE.out]; exact hO.out, hB.out⟩
theorem holdsI_own {w : World} {B : Nat} {a : Option Addr} {c : Nat} {P : List Nat} (h : w.ownsRow B 21 1 (.slice a P.length c) P.length (runesV (intsN P))) : HoldsI .i32 w a P.length (intsN P) := by
  have hv := owns_holds h
  refine ⟨intsN_len P, fun h0 => ?_⟩
  obtain ⟨b, o, ha, hc⟩ := hv.2 h0
  exact ⟨b, o, ha, fun i hi => by rw [hc i hi, runesV, getD_map_int .i32 _ i (by rw [intsN_len]; exact hi)]⟩
theorem r1runes_any (s : ByteArray) (w : World) (hs : s.size ≤ 1048576) :
    Calls Try.prog 84 #[.string s] w (RunesP s w) := by
  refine (r1runesq_any s w hs).mono ?_
  rintro e w' (⟨h1, a, c, rfl, h2, h3⟩ | h)
  · exact Or.inl ⟨h1, a, c, rfl, holdsI_own h2, (owns_none h2).1, h3⟩
  · exact Or.inr h
end Go.Proofs.Ytolggcdlpiedmaa
/- contract of the document's Len -/
namespace Go.Proofs.Ytolggcdlpiedmaa
open Go.RowKit
set_option linter.unusedVariables false
set_option maxRecDepth 20000
set_option maxHeartbeats 800000 in
theorem rlen_any (s : ByteArray) (w : World) (hs : s.size ≤ 1048576) :
    Calls Try.prog 63 #[.string s] w fun e w' => e = .returned (.int .i64 (lenS s)) ∧ Below w.heap.size w w' := by
  have hr := Lib.hid (r1runes_any s w hs)
  by_cases hg : 0 ≤ lenS s
  · have hL := (lenS_pos hg).2
    have HL := Lib.hid hL; have HG := Lib.hid hg
    clear hg hL
    obtain ⟨n, hn⟩ : ∃ n, (runesS s).length = n := ⟨_, rfl⟩
    have hle := runesS_le s
    unfold RunesP at hr
    rw [hn] at hr hle
    rw [hn] at HL
    clear hn
    go_enter Try.func63, Try.ntmps63
    go_wp2_with fail
    refine hr.out.mono ?_
    rintro e w1 (⟨h1, a, c, rfl, h2, h3, h4⟩ | ⟨h1, _⟩)
    rotate_left
    · exact absurd HG.out (by omega)
    have H4 := Lib.hid h4
    clear h1 h2 h3 h4
    go_wp2_with fail
    go_ret
    exact ⟨ret_int HL.out.symm, H4.out⟩
  · have hb : lenS s = -1 := by have := (lenS_bd s).1; omega
    have HB := Lib.hid hb; have HG := Lib.hid hg
    clear hg hb
    go_enter Try.func63, Try.ntmps63
    go_wp2_with fail
    refine hr.out.mono ?_
    rintro e w1 (⟨h1, _⟩ | ⟨h1, rfl, h2⟩)
    · exact absurd h1 (by have := HG.out; omega)
    clear h1
    go_wp2_with fail
    go_ret
    exact ⟨ret_int HB.out.symm, h2⟩
end Go.Proofs.Ytolggcdlpiedmaa
/- contract of the document's Asked -/
namespace Go.Proofs.Ytolggcdlpiedmaa
open Go.RowKit
set_option linter.unusedVariables false
set_option maxRecDepth 20000
theorem rasked_any (s : ByteArray) (w : World) (hs : s.size ≤ 1048576) :
    Calls Try.prog 40 #[.string s] w fun e w' => e = .returned (.bool (decide (0 ≤ lenS s ∧ lenS s ≤ 16))) ∧ Below w.heap.size w w' := by
  have h1 := Lib.hid (fun w => rlen_any s w hs)
  obtain ⟨n, hn⟩ : ∃ n, lenS s = n := ⟨_, rfl⟩
  rw [hn]
  simp only [hn] at h1
  clear hn
  by_cases h : 0 ≤ n
  · rw [show decide (0 ≤ n ∧ n ≤ 16) = decide (n ≤ 16) by simp [h]]
    go_enter Try.func40, Try.ntmps40
    go_wp2_with fail
    refine (h1.out _).mono ?_
    rintro e w1 ⟨rfl, hb⟩
    go_wp2_with fail
    refine (h1.out _).mono ?_
    rintro e w2 ⟨rfl, hb2⟩
    go_wp2_with fail
    go_ret
    exact ⟨rfl, hb.trans (hb2.mono hb.size)⟩
  · rw [show decide (0 ≤ n ∧ n ≤ 16) = false by simp [h]]
    go_enter Try.func40, Try.ntmps40
    go_wp2_with fail
    refine (h1.out _).mono ?_
    rintro e w1 ⟨rfl, hb⟩
    go_wp2_with fail
    go_ret
    exact ⟨rfl, hb⟩
end Go.Proofs.Ytolggcdlpiedmaa
/- contract of text.Asked -/
namespace Go.Proofs.Ytolggcdlpiedmaa
open Go.RowKit
set_option linter.unusedVariables false
set_option maxRecDepth 20000
theorem asked_any (s : ByteArray) (w : World) (hs : s.size ≤ 9223372036854775807) :
    Calls Try.prog 29 #[.string s] w fun e w' => e = .returned (.bool (decide (0 ≤ lenS s ∧ lenS s ≤ 16))) ∧ Below w.heap.size w w' := by
  have h1 := Lib.hid (len_any s w hs)
  obtain ⟨n, hn⟩ : ∃ n, lenS s = n := ⟨_, rfl⟩
  rw [hn] at h1 ⊢
  clear hn
  have hc : n < 0 ∨ (0 ≤ n ∧ n ≤ 16) ∨ (0 ≤ n ∧ 16 < n) := by omega
  rcases hc with h | ⟨h, h2⟩ | ⟨h, h2⟩
  · rw [decide_eq_false (by omega)]
    go_enter Try.func29, Try.ntmps29
    go_wp2_with fail
    refine h1.out.mono ?_
    rintro e w' ⟨rfl, hb⟩
    go_wp2_with fail
    go_ret
    exact ⟨rfl, hb⟩
  · rw [decide_eq_true (by omega)]
    have x1 : decide (n ≤ 16) = true := by simpa using h2
    go_enter Try.func29, Try.ntmps29
    go_wp2_with fail
    refine h1.out.mono ?_
    rintro e w' ⟨rfl, hb⟩
    go_wp2_with fail
    go_ret
    exact ⟨ret_bool (by simp [*]), hb⟩
  · rw [decide_eq_false (by omega)]
    have x1 : decide (n ≤ 16) = false := by simpa using h2
    go_enter Try.func29, Try.ntmps29
    go_wp2_with fail
    refine h1.out.mono ?_
    rintro e w' ⟨rfl, hb⟩
    go_wp2_with fail
    go_ret
    exact ⟨ret_bool (by simp [*]), hb⟩
theorem asked_lit (s : ByteArray) (c : Bool) (w : World) (hs : s.size ≤ 9223372036854775807) (hc : decide (0 ≤ lenS s ∧ lenS s ≤ 16) = c) :
    Calls Try.prog 29 #[.string s] w fun e w' => e = .returned (.bool c) ∧ Below w.heap.size w w' := by subst hc; exact asked_any s w hs
end Go.Proofs.Ytolggcdlpiedmaa
/- contract of rank.May -/
namespace Go.Proofs.Ytolggcdlpiedmaa
open Go.RowKit
set_option linter.unusedVariables false
set_option maxRecDepth 20000
/-- a query that may be asked -/
def mayP (s : ByteArray) (k n : Int) : Prop := (0 ≤ k ∧ k ≤ 4) ∧ (1 ≤ n ∧ n ≤ 10) ∧ 0 ≤ lenS s ∧ lenS s ≤ 16
instance (s : ByteArray) (k n : Int) : Decidable (mayP s k n) := by unfold mayP; infer_instance
theorem may_any (s : ByteArray) (k n : Int) (w : World) (hs : s.size ≤ 9223372036854775807) :
    Calls Try.prog 23 #[.agg #[.string s, .int .i64 k, .int .i64 n]] w fun e w' => e = .returned (.bool (decide (mayP s k n))) ∧ Below w.heap.size w w' := by
  have hA := Lib.hid (fun w => asked_any s w hs)
  by_cases h1 : 0 ≤ k
  case neg =>
    rw [decide_eq_false (fun x => h1 x.1.1)]
    go_enter Try.func23, Try.ntmps23
    go_wp2_with fail
    go_ret
    exact ⟨rfl, below_one _ _⟩
  by_cases h2 : k ≤ 4
  case neg =>
    rw [decide_eq_false (fun x => h2 x.1.2)]
    go_enter Try.func23, Try.ntmps23
    go_wp2_with fail
    go_ret
    exact ⟨rfl, below_one _ _⟩
  by_cases h3 : 1 ≤ n
  case neg =>
    rw [decide_eq_false (fun x => h3 x.2.1.1)]
    go_enter Try.func23, Try.ntmps23
    go_wp2_with fail
    go_ret
    exact ⟨rfl, below_one _ _⟩
  by_cases h4 : n ≤ 10
  case neg =>
    rw [decide_eq_false (fun x => h4 x.2.1.2)]
    go_enter Try.func23, Try.ntmps23
    go_wp2_with fail
    go_ret
    exact ⟨rfl, below_one _ _⟩
  rw [show decide (mayP s k n) = decide (0 ≤ lenS s ∧ lenS s ≤ 16) by unfold mayP; simp [h1, h2, h3, h4]]
  generalize decide (0 ≤ lenS s ∧ lenS s ≤ 16) = c at *
  go_enter Try.func23, Try.ntmps23
  go_wp2_with fail
  refine (hA.out _).mono ?_
  rintro e w' ⟨rfl, hb⟩
  go_wp2_with fail
  go_ret
  exact ⟨rfl, (below_one _ _).trans (hb.mono (by simp))⟩
theorem may_lit (s : ByteArray) (k n : Int) (c : Bool) (w : World) (hs : s.size ≤ 9223372036854775807) (hc : decide (mayP s k n) = c) :
    Calls Try.prog 23 #[.agg #[.string s, .int .i64 k, .int .i64 n]] w fun e w' => e = .returned (.bool c) ∧ Below w.heap.size w w' := by subst hc; exact may_any s k n w hs
end Go.Proofs.Ytolggcdlpiedmaa
/- contract of the document's May -/
namespace Go.Proofs.Ytolggcdlpiedmaa
open Go.RowKit
set_option linter.unusedVariables false
set_option maxRecDepth 20000
end Go.Proofs.Ytolggcdlpiedmaa
/- lists of runes as arguments, opened -/
namespace Go.Proofs.Ytolggcdlpiedmaa
open Go.RowKit
set_option linter.unusedVariables false
set_option maxRecDepth 20000
theorem Try.cellsI32 : Try.prog.cellsOf 21 = 1 := by kernel_rfl
theorem open_runes_arg {H : Type} {enc : TypeId × Value → H} {W : World} {base : Nat} {v : Value} {d : DataW H} {p : List MemPlace}
    (o : Value.okWide Try.prog W .any base 83 v) (h : DataW.Trod enc Try.prog W 0 (fun _ => true) true 83 v d p) :
    ∃ a zs cap, v = .slice a zs.length cap ∧ HoldsI .i32 W a zs.length zs ∧ (a = none → zs.length = 0 ∧ cap = 0) ∧ zs.length ≤ cap ∧ cap ≤ maxLen ∧ ∀ z ∈ zs, -2147483648 ≤ z ∧ z ≤ 2147483647 := by
  obtain ⟨a, n, cap, zs, rfl, hh, hnil, h1, h2, hw⟩ := open_ints_arg Try.underlying83 Try.underlying21 Try.cellsI32 o h
  have hl := hh.len
  subst hl
  exact ⟨a, zs, cap, rfl, hh, hnil, h1, h2, fun z hz => i32_of_wf (hw z hz)⟩
end Go.Proofs.Ytolggcdlpiedmaa
/- rows of edit distances: how they change, their beginnings; two cells kept -/
namespace Go.Proofs.Ytolggcdlpiedmaa
open Go.RowKit
set_option linter.unusedVariables false
set_option maxRecDepth 20000
theorem Ed.L_back (a b : List Int) (i : Nat) : ∀ j, Ed.L a b i j ≤ Ed.L a b (i + 1) j + 1 := by
  intro j
  induction j with
  | zero => rw [Ed.L_zero, Ed.L_zero]; omega
  | succ j ih =>
    have h1 := Ed.L_right a b i j; have h2 := Ed.cost_bd (a.getD i 0) (b.getD j 0)
    have h3 : Ed.L a b (i + 1) (j + 1) = min (min (Ed.L a b i j + Ed.cost (a.getD i 0) (b.getD j 0)) (Ed.L a b (i + 1) j + 1)) (Ed.L a b i (j + 1) + 1) := by simp only [Ed.L]
    omega
theorem getD_take_in (l : List Int) (k i : Nat) (h : i < k) : (l.take k).getD i 0 = l.getD i 0 := by
  simp [List.getD_eq_getElem?_getD, h]
theorem Ed.L_take (a b : List Int) (k : Nat) : ∀ i j, i ≤ k → Ed.L (a.take k) b i j = Ed.L a b i j := by
  intro i
  induction i with
  | zero => intro j _; simp only [Ed.L]
  | succ i ih =>
    intro j hi
    induction j with
    | zero => simp only [Ed.L]
    | succ j ihj => simp only [Ed.L]; rw [ih j (by omega), ih (j + 1) (by omega), ihj, getD_take_in a k i (by omega)]
theorem HoldsI.take {k : IntKind} {w : World} {a : Option Addr} {n : Nat} {zs : List Int} (h : HoldsI k w a n zs) (m : Nat) (hm : m ≤ n) : HoldsI k w a m (zs.take m) := by
  refine ⟨by have := h.1; simp; omega, fun h0 => ?_⟩
  obtain ⟨b, o, ha, hc⟩ := h.2 (by omega)
  exact ⟨b, o, ha, fun i hi => by rw [hc i (by omega), getD_take_in zs m i hi]⟩
/-- what lay in two cells lies there still -/
def Two (w1 : World) (g i j : Nat) (x y : Value) (w' : World) : Prop := Below w1.heap.size w1 w' ∧ w'.cell? ⟨g, i, none⟩ = some x ∧ w'.cell? ⟨g, j, none⟩ = some y
theorem two_carry {w1 : World} {g i j : Nat} {x y : Value} {w w' : World} (h : Two w1 g i j x y w) (hb : Below w.heap.size w w') : Two w1 g i j x y w' :=
  ⟨h.1.trans (hb.mono h.1.size), by rw [hb.cell (p := ⟨g, i, none⟩) (lt_of_cell h.2.1)]; exact h.2.1, by rw [hb.cell (p := ⟨g, j, none⟩) (lt_of_cell h.2.2)]; exact h.2.2⟩
theorem eruns_lit (ra rb : List Int) (m n : Nat) (a b : Option Addr) (ca cb : Nat) (w : World) (hm : ra.length = m) (hn : rb.length = n) (ha : HoldsI .i32 w a m ra) (hb : HoldsI .i32 w b n rb) (hla : m ≤ 1048576) (hlb : n ≤ 1048576) :
    Calls Try.prog 86 #[.slice a m ca, .slice b n cb] w fun e w' => e = .returned (.int .i64 (Ed.L ra rb m n)) ∧ Below w.heap.size w w' := by
  subst hm hn; exact eruns_any ra rb a b ca cb w ha hb hla hlb
end Go.Proofs.Ytolggcdlpiedmaa
/- a band of a table of distances: plain lemmas; a row in memory -/
namespace Go.Proofs.Ytolggcdlpiedmaa
open Go.RowKit
set_option linter.unusedVariables false
set_option maxRecDepth 20000
/-- what the band's cell x holds when i runes of a are done: the distance, k + 1 at most -/
structure Cell (a b : List Int) (k i x : Nat) (v : Int) : Prop where
  lo : 0 ≤ v
  hi : v ≤ (k : Int) + 1
  eq : ∀ j : Nat, (j : Int) = (i : Int) + x - k → j ≤ b.length → v = min (Ed.L a b i j) ((k : Int) + 1)
  far : i + x < k → v = (k : Int) + 1
theorem cell_start (a b : List Int) (k x : Nat) (h : x ≤ 2 * k) : Cell a b k 0 x (if k ≤ x then (x : Int) - k else (k : Int) + 1) := by
  refine ⟨by split <;> omega, by split <;> omega, fun j hj hl => ?_, fun hx => by rw [if_neg (by omega)]⟩
  rw [Ed.L_zeroL, if_pos (by omega)]; omega
theorem cell_out_low (a b : List Int) (k i x : Nat) (h : i + x < k) : Cell a b k i x ((k : Int) + 1) := ⟨by omega, by omega, fun j hj _ => by omega, fun _ => rfl⟩
theorem cell_out_high (a b : List Int) (k i x : Nat) (h : (b.length : Int) < (i : Int) + x - k) : Cell a b k i x ((k : Int) + 1) := ⟨by omega, by omega, fun j hj _ => by omega, fun _ => rfl⟩
/-- the cell at the left edge of the table -/
theorem cell_zero (a b : List Int) (k i x : Nat) (u v : Int) (hx : (i : Int) + 1 + x = k) (hu : x + 1 ≤ 2 * k → Cell a b k i (x + 1) u) (hv : v = min (min ((k : Int) + 1) (u + 1)) ((k : Int) + 1)) : Cell a b k (i + 1) x v := by
  have h1 := (hu (by omega)).eq 0 (by omega) (by omega)
  rw [Ed.L_zero] at h1
  refine ⟨by omega, by omega, fun j hj hl => ?_, fun h => by omega⟩
  obtain rfl : j = 0 := by omega
  rw [Ed.L_zero]; omega
/-- a cell within the table -/
theorem cell_in (a b : List Int) (k i x J : Nat) (o l u d2 d3 v : Int) (hJ : (J : Int) + 1 = (i : Int) + 1 + x - k) (hl : J + 1 ≤ b.length) (ho : Cell a b k i x o)
    (hd2 : (x = 0 ∧ d2 = o + Ed.cost (a.getD i 0) (b.getD J 0)) ∨ (∃ p, p + 1 = x ∧ Cell a b k (i + 1) p l ∧ d2 = min (o + Ed.cost (a.getD i 0) (b.getD J 0)) (l + 1)))
    (hd3 : (x = 2 * k ∧ d3 = d2) ∨ (x < 2 * k ∧ Cell a b k i (x + 1) u ∧ d3 = min d2 (u + 1)))
    (hv : v = min d3 ((k : Int) + 1)) : Cell a b k (i + 1) x v := by
  have h1 := ho.eq J (by omega) (by omega)
  have hc := Ed.cost_bd (a.getD i 0) (b.getD J 0)
  have hL : Ed.L a b (i + 1) (J + 1) = min (min (Ed.L a b i J + Ed.cost (a.getD i 0) (b.getD J 0)) (Ed.L a b (i + 1) J + 1)) (Ed.L a b i (J + 1) + 1) := by simp only [Ed.L]
  have b1 := Ed.L_low a b (i + 1) J
  have b2 := Ed.L_low a b i (J + 1)
  have b3 := Ed.L_bd a b i J
  have b4 := Ed.L_bd a b (i + 1) J
  have b5 := Ed.L_bd a b i (J + 1)
  have g1 := ho.lo
  have e2 : d2 = min (o + Ed.cost (a.getD i 0) (b.getD J 0)) (min (Ed.L a b (i + 1) J) ((k : Int) + 1) + 1) ∨ (d2 = o + Ed.cost (a.getD i 0) (b.getD J 0) ∧ (k : Int) + 1 ≤ Ed.L a b (i + 1) J) := by
    rcases hd2 with ⟨hx, h⟩ | ⟨p, hp, hcell, h⟩
    · exact Or.inr ⟨h, by omega⟩
    · have h2 := hcell.eq J (by omega) (by omega)
      exact Or.inl (by rw [h, h2])
  have e3 : d3 = min d2 (min (Ed.L a b i (J + 1)) ((k : Int) + 1) + 1) ∨ (d3 = d2 ∧ (k : Int) + 1 ≤ Ed.L a b i (J + 1)) := by
    rcases hd3 with ⟨hx, h⟩ | ⟨hx, hcell, h⟩
    · exact Or.inr ⟨h, by omega⟩
    · have h2 := hcell.eq (J + 1) (by omega) (by omega)
      exact Or.inl (by rw [h, h2])
  have hval : v = min (Ed.L a b (i + 1) (J + 1)) ((k : Int) + 1) := by
    rw [hL, hv]
    generalize Ed.L a b i J = A at *
    generalize Ed.L a b (i + 1) J = B at *
    generalize Ed.L a b i (J + 1) = C at *
    generalize Ed.cost (a.getD i 0) (b.getD J 0) = c at *
    clear hd2 hd3 ho hL
    rcases e2 with e2 | ⟨e2, f2⟩ <;> rcases e3 with e3 | ⟨e3, f3⟩ <;> omega
  have b6 := Ed.L_bd a b (i + 1) (J + 1)
  refine ⟨by omega, by omega, fun j hj hl2 => ?_, fun h => by omega⟩
  obtain rfl : j = J + 1 := by omega
  exact hval
/-- what a round of the band has to come to, told of the number that it begins with -/
def Comes (a b : List Int) (k i x : Nat) (d1 : Int) : Prop :=
  ∀ (l u d2 d3 v : Int), ((x = 0 ∧ d2 = d1) ∨ (∃ p, p + 1 = x ∧ Cell a b k (i + 1) p l ∧ d2 = min d1 (l + 1))) →
    ((x = 2 * k ∧ d3 = d2) ∨ (x < 2 * k ∧ Cell a b k i (x + 1) u ∧ d3 = min d2 (u + 1))) → v = min d3 ((k : Int) + 1) → Cell a b k (i + 1) x v
theorem comes_in (a b : List Int) (k i x J : Nat) (o : Int) (hJ : (J : Int) + 1 = (i : Int) + 1 + x - k) (hl : J + 1 ≤ b.length) (ho : Cell a b k i x o) : Comes a b k i x (o + Ed.cost (a.getD i 0) (b.getD J 0)) :=
  fun l u d2 d3 v h2 h3 hv => cell_in a b k i x J o l u d2 d3 v hJ hl ho h2 h3 hv
theorem comes_zero (a b : List Int) (k i x : Nat) (hx : (i : Int) + 1 + x = k) : Comes a b k i x ((k : Int) + 1) := by
  intro l u d2 d3 v h2 h3 hv
  have e2 : d2 = (k : Int) + 1 := by
    rcases h2 with ⟨_, h⟩ | ⟨p, hp, hc, h⟩
    · exact h
    · have := hc.far (by omega); omega
  rcases h3 with ⟨h, _⟩ | ⟨h, hc, h'⟩
  · omega
  · exact cell_zero a b k i x u v hx (fun _ => hc) (by rw [hv, h', e2])
/-- a row of numbers in memory, in a block of its own -/
structure RowIs (w : World) (g n : Nat) (f : Nat → Int) : Prop where
  c : ∀ j, j < n → w.cell? ⟨g, j, none⟩ = some (.int .i64 (f j))
  fr : ∀ j, w.frozen? ⟨g, j, none⟩ = false
def updI (f : Nat → Int) (i : Nat) (v : Int) : Nat → Int := fun j => if j = i then v else f j
theorem updI_at (f : Nat → Int) (i : Nat) (v : Int) : updI f i v i = v := by simp [updI]
theorem updI_ne (f : Nat → Int) (i j : Nat) (v : Int) (h : j ≠ i) : updI f i v j = f j := by simp [updI, h]
theorem setc_at {w : World} {b o : Nat} {u v : Value} (h : w.cell? ⟨b, o, none⟩ = some u) : (w.setCell ⟨b, o, none⟩ v).cell? ⟨b, o, none⟩ = some v := World.cell?_setCell_same _ _ _ h
theorem setc_ne {w : World} {b o p : Nat} {v : Value} (h : o ≠ p) : (w.setCell ⟨b, o, none⟩ v).cell? ⟨b, p, none⟩ = w.cell? ⟨b, p, none⟩ := World.cell?_setCell_other _ _ _ _ (by intro e; injection e; contradiction)
theorem RowIs.set {w : World} {g n : Nat} {f : Nat → Int} (h : RowIs w g n f) (i : Nat) (v : Int) (hi : i < n) : RowIs (w.setCell ⟨g, i, none⟩ (.int .i64 v)) g n (updI f i v) := by
  refine ⟨fun j hj => ?_, fun j => by rw [show (w.setCell ⟨g, i, none⟩ (.int .i64 v)).frozen? ⟨g, j, none⟩ = w.frozen? ⟨g, j, none⟩ by simp]; exact h.fr j⟩
  by_cases e : j = i
  · subst e; rw [updI_at]; exact setc_at (h.c j hj)
  · rw [updI_ne _ _ _ _ e, setc_ne (fun x => e x.symm)]; exact h.c j hj
theorem RowIs.lt {w : World} {g n : Nat} {f : Nat → Int} (h : RowIs w g n f) (hn : 0 < n) : g < w.heap.size := lt_of_cell (h.c 0 hn)
theorem RowIs.block {w w' : World} {g n : Nat} {f : Nat → Int} (h : RowIs w g n f) (hb : w'.heap[g]? = w.heap[g]?) : RowIs w' g n f :=
  ⟨fun j hj => by rw [World.cell?_of_block (w := w) hb]; exact h.c j hj, fun j => by rw [World.frozen?_of_block (w := w) hb]; exact h.fr j⟩
/-- apart from block b the world w' is as w was -/
structure But (b : Nat) (w w' : World) : Prop where
  os : w'.os = w.os
  tape : w'.tape = w.tape
  output : w'.output = w.output
  size : w.heap.size ≤ w'.heap.size
  block : ∀ k, k < w.heap.size → k ≠ b → w'.heap[k]? = w.heap[k]?
theorem But.refl (b : Nat) (w : World) : But b w w := ⟨rfl, rfl, rfl, Nat.le_refl _, fun _ _ _ => rfl⟩
theorem But.trans {b : Nat} {w w1 w2 : World} (h : But b w w1) (k : But b w1 w2) : But b w w2 :=
  ⟨k.os.trans h.os, k.tape.trans h.tape, k.output.trans h.output, Nat.le_trans h.size k.size, fun i hi hb => (k.block i (Nat.lt_of_lt_of_le hi h.size) hb).trans (h.block i hi hb)⟩
theorem But.setCell (w : World) (b o : Nat) (v : Value) : But b w (w.setCell ⟨b, o, none⟩ v) :=
  ⟨rfl, rfl, rfl, by simp [World.setCell], fun k _ hk => Below.heap_setCell _ _ _ _ hk⟩
theorem But.below {b B : Nat} {w w' : World} (h : But b w w') (hb : B ≤ b) (hB : B ≤ w.heap.size) : Below B w w' :=
  ⟨h.os, h.tape, h.output, h.size, fun k hk => h.block k (by omega) (by omega)⟩
theorem HoldsI.but {k : IntKind} {w w' : World} {a : Option Addr} {n : Nat} {zs : List Int} {g : Nat} (h : HoldsI k w a n zs) (hb : But g w w') (hne : ∀ b o, 0 < n → a = some ⟨b, o, none⟩ → b ≠ g) : HoldsI k w' a n zs := by
  refine ⟨h.1, fun h0 => ?_⟩
  obtain ⟨b, o, ha, hc⟩ := h.2 h0
  refine ⟨b, o, ha, fun i hi => ?_⟩
  rw [World.cell?_of_block (w := w) (hb.block b (lt_of_cell (hc i hi)) (hne b o h0 ha))]
  exact hc i hi
end Go.Proofs.Ytolggcdlpiedmaa
/- a table of distances in memory: rows in blocks of their own -/
namespace Go.Proofs.Ytolggcdlpiedmaa
open Go.RowKit
set_option linter.unusedVariables false
set_option maxRecDepth 20000
/-- a row of numbers that lies in a block of cells of int -/
def RowAt (w : World) (g n : Nat) (f : Nat → Int) : Prop := ∃ cs fr, w.heap[g]? = some (.cells cs 3 fr) ∧ ∀ j, j < n → cs[j]? = some (.int .i64 (f j))
theorem RowAt.cell {w : World} {g n : Nat} {f : Nat → Int} (h : RowAt w g n f) {j : Nat} (hj : j < n) : w.cell? ⟨g, j, none⟩ = some (.int .i64 (f j)) := by
  obtain ⟨cs, fr, h1, h2⟩ := h
  rw [Joins.cell_of_block h1]; exact h2 j hj
theorem RowAt.lt {w : World} {g n : Nat} {f : Nat → Int} (h : RowAt w g n f) : g < w.heap.size := by
  obtain ⟨cs, fr, h1, _⟩ := h
  exact (Array.getElem?_eq_some_iff.1 h1).1
theorem RowAt.block {w w' : World} {g n : Nat} {f : Nat → Int} (h : RowAt w g n f) (hb : w'.heap[g]? = w.heap[g]?) : RowAt w' g n f := by
  obtain ⟨cs, fr, h1, h2⟩ := h
  exact ⟨cs, fr, by rw [hb]; exact h1, h2⟩
theorem RowAt.below {w w' : World} {g n : Nat} {f : Nat → Int} (h : RowAt w g n f) (hb : Below w.heap.size w w') : RowAt w' g n f := h.block (hb.block g h.lt)
theorem RowAt.congr {w : World} {g n : Nat} {f f' : Nat → Int} (h : RowAt w g n f) (he : ∀ j, j < n → f j = f' j) : RowAt w g n f' := by
  obtain ⟨cs, fr, h1, h2⟩ := h
  exact ⟨cs, fr, h1, fun j hj => by rw [← he j hj]; exact h2 j hj⟩
theorem RowAt.of_own {w : World} {B n : Nat} {v : Value} {zs : List Int} (h : w.ownsRow B 3 1 v n (intsV zs)) (h0 : 0 < n) : ∃ g c, v = .slice (some ⟨g, 0, none⟩) n c ∧ B ≤ g ∧ RowAt w g n (fun j => zs.getD j 0) := by
  obtain ⟨h1, ⟨_, h2⟩ | ⟨g, cap, cur, rfl, hg, hh, h3, h4, h5, h6⟩⟩ := h
  · omega
  · refine ⟨g, cap, rfl, hg, cur, _, hh, fun j hj => ?_⟩
    rw [Nat.mul_one] at h6
    have h7 : zs.length = n := by rw [Nat.mul_one] at h1; simpa [intsV] using h1
    have h8 := intsV_at zs j (by omega)
    rw [← h6, List.getElem?_take, if_pos hj] at h8
    rw [← h8]; simp
/-- the rows' slices -/
def slV (m : Nat) (G C : Nat → Nat) (n : Nat) : List Value := (List.range n).map fun j => .slice (some ⟨G j, 0, none⟩) m (C j)
theorem slV_length (m : Nat) (G C : Nat → Nat) (n : Nat) : (slV m G C n).length = n := by simp [slV]
theorem slV_at (m : Nat) (G C : Nat → Nat) (n j : Nat) (h : j < n) : (slV m G C n)[j]? = some (.slice (some ⟨G j, 0, none⟩) m (C j)) := by simp [slV, h]
def updN (f : Nat → Nat) (i : Nat) (v : Nat) : Nat → Nat := fun j => if j = i then v else f j
theorem updN_at (f : Nat → Nat) (i v : Nat) : updN f i v i = v := by simp [updN]
theorem updN_ne (f : Nat → Nat) (i j v : Nat) (h : j ≠ i) : updN f i v j = f j := by simp [updN, h]
theorem slV_snoc (m : Nat) (G C : Nat → Nat) (n g c : Nat) : slV m (updN G n g) (updN C n c) (n + 1) = slV m G C n ++ [.slice (some ⟨g, 0, none⟩) m c] := by
  unfold slV
  rw [List.range_succ, List.map_append]
  congr 1
  · refine List.map_congr_left fun j hj => ?_
    have := List.mem_range.1 hj
    rw [updN_ne _ _ _ _ (by omega), updN_ne _ _ _ _ (by omega)]
  · simp [updN_at]
theorem one_slice (a : Option Addr) (n c : Nat) : ∀ u ∈ [Value.slice a n c], u.oneCell' = true := by simp [Value.oneCell']
/-- where the list of slices lies: no row lies there -/
theorem own_at {w : World} {B n : Nat} {v : Value} {xs : List Value} (h : w.ownsRow B 45 1 v n xs) (h0 : 0 < n) : ∃ T c, v = .slice (some ⟨T, 0, none⟩) n c ∧ ∀ j u, xs[j]? = some u → w.cell? ⟨T, j, none⟩ = some u := by
  obtain ⟨h1, ⟨_, h2⟩ | ⟨g, cap, cur, rfl, hg, hh, h3, h4, h5, h6⟩⟩ := h
  · omega
  · refine ⟨g, cap, rfl, fun j u hj => ?_⟩
    rw [Joins.cell_of_block hh]
    rw [← h6] at hj
    rw [List.getElem?_take] at hj
    split at hj
    · simpa using hj
    · cases hj
theorem own_apart {w : World} {B n g m : Nat} {v : Value} {xs : List Value} {f : Nat → Int} (h : w.ownsRow B 45 1 v n xs) (hr : RowAt w g m f) : some g ≠ v.ownBlock := by
  obtain ⟨cs, fr, hr1, _⟩ := hr
  obtain ⟨h1, ⟨rfl, h2⟩ | ⟨T, cap, cur, rfl, hg, hh, _⟩⟩ := h
  · simp [Value.ownBlock]
  · intro e
    simp only [Value.ownBlock, Option.some.injEq] at e
    subst e
    rw [hh] at hr1
    injection hr1 with hr1
    injection hr1 with _ e2 _
    exact absurd e2 (by decide)
theorem RowAt.grown {w w' : World} {B n g m : Nat} {v : Value} {xs : List Value} {f : Nat → Int} (hr : RowAt w g m f) (h : w.ownsRow B 45 1 v n xs) (hg : w.grownBy w' v.ownBlock) : RowAt w' g m f :=
  hr.block (hg.block g hr.lt (own_apart h hr))
/-- the table of the first n beginnings of a, as a slice -/
def TableIs (w : World) (a : Option Addr) (n m : Nat) (ra rb : List Int) : Prop :=
  ∃ T, a = some ⟨T, 0, none⟩ ∧ ∀ i, i < n → ∃ g c, w.cell? ⟨T, i, none⟩ = some (.slice (some ⟨g, 0, none⟩) m c) ∧ ∀ j, j < m → w.cell? ⟨g, j, none⟩ = some (.int .i64 (Ed.L ra rb i j))
theorem TableIs.below {w w' : World} {a : Option Addr} {n m : Nat} {ra rb : List Int} (h : TableIs w a n m ra rb) (hb : Below w.heap.size w w') : TableIs w' a n m ra rb := by
  obtain ⟨T, ha, h1⟩ := h
  refine ⟨T, ha, fun i hi => ?_⟩
  obtain ⟨g, c, h2, h3⟩ := h1 i hi
  exact ⟨g, c, by rw [hb.cell (p := ⟨T, i, none⟩) (lt_of_cell h2)]; exact h2, fun j hj => by rw [hb.cell (p := ⟨g, j, none⟩) (lt_of_cell (h3 j hj))]; exact h3 j hj⟩
theorem slices_info : (Try.prog.info? 45).map (fun i => (i.zero, i.size, i.bytes)) = some (some (.slice none 0 0), 1, 24) := by kernel_rfl
end Go.Proofs.Ytolggcdlpiedmaa
/- contract of the document's table of distances -/
namespace Go.Proofs.Ytolggcdlpiedmaa
open Go.RowKit
set_option linter.unusedVariables false
set_option maxRecDepth 20000
def rowL (ra rb : List Int) (i k : Nat) : List Int := (List.range k).map fun j => Ed.L ra rb i j
theorem rowL_length (ra rb : List Int) (i k : Nat) : (rowL ra rb i k).length = k := by simp [rowL]
theorem rowL_at (ra rb : List Int) (i k j : Nat) (h : j < k) : (rowL ra rb i k).getD j 0 = Ed.L ra rb i j := by simp [rowL, List.getD_eq_getElem?_getD, h]
theorem rowL_snoc (ra rb : List Int) (i k : Nat) : intsV (rowL ra rb i (k + 1)) = intsV (rowL ra rb i k) ++ [.int .i64 (Ed.L ra rb i k)] := by
  simp [rowL, intsV, List.range_succ]
/-- what is done of the table -/
structure Tbl (w : World) (B n m : Nat) (v : Value) (ra rb : List Int) (G C : Nat → Nat) : Prop where
  own : w.ownsRow B 45 1 v n (slV m G C n)
  rows : ∀ j, j < n → RowAt w (G j) m (fun k => Ed.L ra rb j k)
theorem Tbl.below {w w' : World} {B n m : Nat} {v : Value} {ra rb : List Int} {G C : Nat → Nat} (h : Tbl w B n m v ra rb G C) (hb : Below w.heap.size w w') : Tbl w' B n m v ra rb G C :=
  ⟨owns_below h.own hb, fun j hj => (h.rows j hj).below hb⟩
theorem Tbl.at {w : World} {B n m : Nat} {v : Value} {ra rb : List Int} {G C : Nat → Nat} (h : Tbl w B n m v ra rb G C) (h0 : 0 < n) : ∃ T c, v = .slice (some ⟨T, 0, none⟩) n c ∧ ∀ j, j < n → w.cell? ⟨T, j, none⟩ = some (.slice (some ⟨G j, 0, none⟩) m (C j)) := by
  obtain ⟨T, c, hv, hc⟩ := own_at h.own h0
  exact ⟨T, c, hv, fun j hj => hc j _ (slV_at m G C n j hj)⟩
set_option maxHeartbeats 6400000 in
theorem table_any (ra rb : List Int) (a b : Option Addr) (la lb ca cb : Nat) (w : World) (ha : HoldsI .i32 w a la ra) (hb : HoldsI .i32 w b lb rb) (hla : la ≤ 1048576) (hlb : lb ≤ 1048576) :
    Calls Try.prog 110 #[.slice a la ca, .slice b lb cb] w fun e w' => ∃ t c, e = .returned (.slice t (la + 1) c) ∧ TableIs w' t (la + 1) (lb + 1) ra rb ∧ Below w.heap.size w w' := by
  obtain ⟨i0, hi, hz0, hz1, hz2⟩ := info_parts int_info
  obtain ⟨i1, hj, hy0, hy1, hy2⟩ := info_parts slices_info
  have HA := Lib.hid ha; have HB := Lib.hid hb
  obtain ⟨m, hm⟩ : ∃ m, lb + 1 = m := ⟨_, rfl⟩
  rw [hm]
  have hm1 : m ≤ 1048577 := by omega
  have HM := Lib.hid hm
  clear ha hb hm
  go_enter Try.func110, Try.ntmps110
  go_wp2_with fail
  go_loopw [5, 6] (fun tv iv wr => ∃ (i : Nat) (G C : Nat → Nat), i ≤ la + 1 ∧ iv = .int .i64 i ∧ Hid (Tbl wr w.heap.size i m tv ra rb G C) ∧ Hid (Below w.heap.size w wr)) (fun _ iv _ => la + 1 - (intOf iv).toNat)
  case atStart => exact ⟨0, fun _ => 0, fun _ => 0, by omega, rfl, Lib.hid ⟨World.ownsRow_nil _ _ _ _, fun j h => by omega⟩, Lib.hid (Below.refl _ _)⟩
  case round =>
    obtain ⟨i, G, C, hi1, rfl, hT, hB⟩ := hrel
    by_cases hlt : i ≤ la
    · obtain ⟨w1, rfl⟩ : ∃ w1, w1 = wr := ⟨_, rfl⟩
      go_wp2_with fail
      go_loopw [7, 8] (fun rv kv wr2 => ∃ k : Nat, k ≤ m ∧ kv = .int .i64 k ∧ Hid (wr2.ownsRow w1.heap.size 3 1 rv k (intsV (rowL ra rb i k))) ∧ Hid (Below w1.heap.size w1 wr2)) (fun _ kv _ => m - (intOf kv).toNat)
      case atStart => exact ⟨0, by omega, rfl, Lib.hid (World.ownsRow_nil _ _ _ _), Lib.hid (Below.refl _ _)⟩
      case round =>
        obtain ⟨k, hk1, rfl, hR, hB2⟩ := hrel
        by_cases hkt : k ≤ lb
        · obtain ⟨D, hD⟩ : ∃ D, Ed.L ra rb i k = D := ⟨_, rfl⟩
          have hbd := Ed.L_bd ra rb i k
          rw [hD] at hbd
          have HD := Lib.hid hD
          clear hD
          go_upto_block 4 with fail
          go_cut [9] from 16 to 72 (fun d wc => d = .int .i64 D ∧ Hid (wc.ownsRow w1.heap.size 3 1 u7 k (intsV (rowL ra rb i k))) ∧ Hid (Below w1.heap.size w1 wc))
          case first =>
            rcases Nat.eq_zero_or_pos i with hi0 | hi0
            · have e : D = (k : Int) := by rw [← HD.out, hi0, Ed.L_zeroL]
              have x1 : ((i : Int) == 0) = true := by simp; omega
              have E := Lib.hid e
              clear e
              go_wp2_with fail
              go_meet
              exact ⟨by rw [E.out], hR, hB2⟩
            rcases Nat.eq_zero_or_pos k with hk0 | hk0
            · have e : D = (i : Int) := by rw [← HD.out, hk0, Ed.L_zero]
              have x1 : ((i : Int) == 0) = false := by simp; omega
              have x2 : ((k : Int) == 0) = true := by simp; omega
              have E := Lib.hid e
              clear e
              go_wp2_with fail
              go_meet
              exact ⟨by rw [E.out], hR, hB2⟩
            have x1 : ((i : Int) == 0) = false := by simp; omega
            have x2 : ((k : Int) == 0) = false := by simp; omega
            obtain ⟨p, hp⟩ : ∃ p, p + 1 = i := ⟨i - 1, by omega⟩
            obtain ⟨q, hq⟩ : ∃ q, q + 1 = k := ⟨k - 1, by omega⟩
            have p1 : IntKind.i64.wrap ((i : Int) - 1) = (p : Int) := by rw [IntWalk.i64_in _ (by omega)]; omega
            have q1 : IntKind.i64.wrap ((k : Int) - 1) = (q : Int) := by rw [IntWalk.i64_in _ (by omega)]; omega
            obtain ⟨T, ct, hu5, hTc⟩ := (hT.out.below hB2.out).at hi0
            have tc := hTc p (by omega)
            have hrow := (hT.out.rows p (by omega)).below hB2.out
            have r1 := hrow.cell (j := q) (by omega)
            have r2 := hrow.cell (j := k) (by have := HM.out; omega)
            obtain ⟨g, cg, hu7, _, hrg⟩ := RowAt.of_own hR.out hk0
            have r3 := hrg.cell (j := q) (by omega)
            rw [rowL_at ra rb i k q (by omega)] at r3
            have hBw := hB.out.trans (hB2.out.mono hB.out.size)
            obtain ⟨ab, ao, rfl, hac⟩ := (HA.out.below hBw).2 (by omega)
            have ea := hac p (by omega)
            obtain ⟨bb, bo, rfl, hbc⟩ := (HB.out.below hBw).2 (by omega)
            have eb := hbc q (by omega)
            have hL : Ed.L ra rb i k = min (min (Ed.L ra rb p q + Ed.cost (ra.getD p 0) (rb.getD q 0)) (Ed.L ra rb i q + 1)) (Ed.L ra rb p k + 1) := by subst hp hq; simp only [Ed.L]
            rw [HD.out] at hL
            have b1 := Ed.L_bd ra rb p q
            have b2 := Ed.L_bd ra rb p k
            have b3 := Ed.L_bd ra rb i q
            obtain ⟨X, hX⟩ : ∃ X, Ed.L ra rb p q = X := ⟨_, rfl⟩
            obtain ⟨Y, hY⟩ : ∃ X, Ed.L ra rb p k = X := ⟨_, rfl⟩
            obtain ⟨Z, hZ⟩ : ∃ X, Ed.L ra rb i q = X := ⟨_, rfl⟩
            obtain ⟨u, hu⟩ : ∃ u, ra.getD p 0 = u := ⟨_, rfl⟩
            obtain ⟨v, hv⟩ : ∃ v, rb.getD q 0 = v := ⟨_, rfl⟩
            rw [hX] at r1 b1 hL; rw [hY] at r2 b2 hL; rw [hZ] at r3 b3 hL; rw [hu] at ea hL; rw [hv] at eb hL
            have c1 : (0 : Int) ≤ (p : Int) := by omega
            have c2 : (p : Int) < (i : Int) := by omega
            have c3 : (0 : Int) ≤ (q : Int) := by omega
            have c4 : (q : Int) < (k : Int) := by omega
            have c5 : (q : Int) < (m : Int) := by have := HM.out; omega
            have c6 : (k : Int) < (m : Int) := by have := HM.out; omega
            have c7 : (p : Int) < (la : Int) := by omega
            have c8 : (q : Int) < (lb : Int) := by omega
            have c9 : k < m := by have := HM.out; omega
            have c10 : q < m := by omega
            have c11 : p < i := by omega
            have c12 : q < k := by omega
            have c13 : p < la := by omega
            have c14 : q < lb := by omega
            have w1' : IntKind.i64.wrap (Y + 1) = Y + 1 := IntWalk.i64_in _ (by omega)
            have w2' : IntKind.i64.wrap (Z + 1) = Z + 1 := IntWalk.i64_in _ (by omega)
            have w3' : IntKind.i64.wrap (X + 1) = X + 1 := IntWalk.i64_in _ (by omega)
            have HL := Lib.hid hL
            have HR := Lib.hid (fun nn => owns_below hR.out (below_drewN wr nn))
            have HB3 := Lib.hid (fun nn => hB2.out.trans ((below_drewN wr nn).mono hB2.out.size))
            clear hTc hrow hrg hBw hac hbc hL hX hY hZ hu hv hp hq hT hB hB2 hR HD
            subst hu5 hu7
            by_cases huv : u = v
            · have y1 : (u != v) = false := by simpa using huv
              rw [huv, cost_eq] at HL
              clear huv
              go_upto_region 11 with fail
              go_quiet (fail)
              go_upto_region 13 with fail
              go_quiet (fail)
              go_wp2_with fail
              all_goals go_meet
              all_goals exact ⟨by congr 1; have := HL.out; omega, Lib.hid (HR.out _), Lib.hid (HB3.out _)⟩
            · have y1 : (u != v) = true := by simpa using huv
              rw [cost_ne huv] at HL
              clear huv
              go_upto_region 11 with fail
              go_quiet (fail)
              go_upto_region 13 with fail
              go_quiet (fail)
              go_wp2_with fail
              all_goals go_meet
              all_goals exact ⟨by congr 1; have := HL.out; omega, Lib.hid (HR.out _), Lib.hid (HB3.out _)⟩
          case rest =>
            obtain ⟨rfl, hR3, hB3⟩ := hcut
            clear hR hB2
            go_wp2_with (at_builtin; refine wpList_append_any rfl (.tmp 69) (.tmp 71) 45 rfl w1.heap.size 3 i0 (.int .i64 0) 1 8 Try.underlying45 hi hz0 hz1 hz2 rfl (by decide) _ k _ rfl (hR3.out.alloc _) _ 1 1 _ rfl (some_none _) rfl (one_new _ _ _ _) (one_int _ _) (by unfold maxLen; omega) (by omega) (by have := hB3.out.size; simp; omega) ?_; intro a3 c3 w3 hown3 hb3 hnil3)
            rw [← HD.out, ← rowL_snoc] at hown3
            have O3 := Lib.hid hown3
            have B3 := Lib.hid ((hB3.out.alloc hB3.out.size _).trans hb3)
            clear hown3 hb3 hnil3 hR3 hB3
            go_roundw
            case rel => exact ⟨k + 1, by have := HM.out; omega, by go_num, O3, B3⟩
            case measure => simp [intOf]; have := HM.out; omega
        · obtain rfl : k = m := by have := HM.out; omega
          obtain ⟨g, cg, hu7, _, hrg⟩ := RowAt.of_own hR.out (by have := HM.out; omega)
          have RG := Lib.hid (hrg.congr (fun j hj => rowL_at ra rb i k j hj))
          have T2 := Lib.hid (hT.out.below hB2.out)
          have B2 := Lib.hid (hB.out.trans (hB2.out.mono hB.out.size))
          subst hu7
          clear hrg hT hB hR hB2
          go_wp2_with (at_builtin; refine wpList_append_own _ rfl (.tmp 73) (.tmp 75) 147 rfl w.heap.size 45 i1 (.slice none 0 0) 1 24 Try.underlying147 hj hy0 hy1 hy2 rfl (by decide) u5 i _ rfl (T2.out.own.alloc _) ⟨wr.heap.size, 0, none⟩ 1 1 _ rfl rfl (one_cells _ _ _ _) (one_slice _ _ _) (by unfold maxLen; omega) (by omega) (by have := B2.out.size; simp; omega) ?_; intro v4 w4 hown4 hg4 hnil4)
          rw [← slV_snoc] at hown4
          have hal := below_one wr (.cells #[.slice (some ⟨g, 0, none⟩) k cg] 45)
          have TA := T2.out.below hal
          have RA := RG.out.below hal
          have N4 : Hid (Tbl w4 w.heap.size (i + 1) k v4 ra rb (updN G i g) (updN C i cg)) := by
            refine Lib.hid ⟨hown4, fun j hj => ?_⟩
            by_cases e : j = i
            · subst e; rw [updN_at]; exact RA.grown TA.own hg4
            · rw [updN_ne _ _ _ _ e]; exact (TA.rows j (by omega)).grown TA.own hg4
          have B4 := Lib.hid ((B2.out.trans (hal.mono B2.out.size)).grown hg4 (by have := B2.out.size; simp; omega) (fun kk hk => (TA.own.lt kk hk).1))
          clear hown4 hg4 hnil4 hal TA RA
          go_roundw
          case rel => exact ⟨i + 1, _, _, by omega, by go_num, N4, B4⟩
          case measure => simp [intOf]; omega
    · obtain rfl : i = la + 1 := by omega
      obtain ⟨T, c, hu5, hc⟩ := hT.out.at (by omega)
      have hrows := hT.out.rows
      have HR := Lib.hid (show TableIs wr (some ⟨T, 0, none⟩) (la + 1) m ra rb from ⟨T, rfl, fun j hj => ⟨G j, C j, hc j hj, fun x hx => (hrows j hj).cell hx⟩⟩)
      clear hc hrows hT
      subst hu5
      go_wp2_with fail
      go_ret
      exact ⟨_, c, rfl, HR.out, hB.out⟩
end Go.Proofs.Ytolggcdlpiedmaa
/- contracts of the document's Runes and Rows -/
namespace Go.Proofs.Ytolggcdlpiedmaa
open Go.RowKit
set_option linter.unusedVariables false
set_option maxRecDepth 20000
theorem rruns_any (ra rb : List Int) (a b : Option Addr) (la lb ca cb : Nat) (w : World) (ha : HoldsI .i32 w a la ra) (hb : HoldsI .i32 w b lb rb) (hla : la ≤ 1048576) (hlb : lb ≤ 1048576) :
    Calls Try.prog 85 #[.slice a la ca, .slice b lb cb] w fun e w' => e = .returned (.int .i64 (Ed.L ra rb la lb)) ∧ Below w.heap.size w w' := by
  have HT := Lib.hid (table_any ra rb a b la lb ca cb w ha hb hla hlb)
  obtain ⟨n, hn⟩ : ∃ n, la + 1 = n := ⟨_, rfl⟩
  obtain ⟨m, hm⟩ : ∃ n, lb + 1 = n := ⟨_, rfl⟩
  rw [hn, hm] at HT
  have h1 : (la : Int) < (n : Int) := by omega
  have h2 : (lb : Int) < (m : Int) := by omega
  have h3 : (0 : Int) ≤ (la : Int) := by omega
  have h4 : (0 : Int) ≤ (lb : Int) := by omega
  have h5 : la < n := by omega
  have h6 : lb < m := by omega
  clear ha hb hn hm
  go_enter Try.func85, Try.ntmps85
  go_wp2_with fail
  refine HT.out.mono ?_
  rintro e w1 ⟨t, c, rfl, ⟨T, rfl, hrows⟩, hb1⟩
  obtain ⟨g, cg, hg, hx⟩ := hrows la h5
  have hl := hx lb h6
  have B1 := Lib.hid hb1
  obtain ⟨D, hD⟩ : ∃ D, Ed.L ra rb la lb = D := ⟨_, rfl⟩
  rw [hD] at hl
  have HD := Lib.hid hD
  clear hrows hx hb1 hD
  go_wp2_with fail
  go_ret
  exact ⟨by rw [HD.out]; rfl, B1.out⟩
end Go.Proofs.Ytolggcdlpiedmaa
/- contract of the document's distance of texts; the laws of texts -/
namespace Go.Proofs.Ytolggcdlpiedmaa
open Go.RowKit
set_option linter.unusedVariables false
set_option maxRecDepth 20000
theorem r1good (s : ByteArray) (w : World) (hs : s.size ≤ 1048576) (hg : 0 ≤ lenS s) :
    Calls Try.prog 84 #[.string s] w fun e w' => ∃ a c, e = .returned (.tuple #[.slice a (runesS s).length c, .bool true]) ∧ HoldsI .i32 w' a (runesS s).length (intsN (runesS s)) ∧ Below w.heap.size w w' := by
  refine (r1runes_any s w hs).mono ?_
  rintro e w' (⟨_, a, c, h1, h2, _, h3⟩ | ⟨h, _⟩)
  · exact ⟨a, c, h1, h2, h3⟩
  · omega
theorem r1bad (s : ByteArray) (w : World) (hs : s.size ≤ 1048576) (hg : lenS s < 0) :
    Calls Try.prog 84 #[.string s] w fun e w' => e = .returned (.tuple #[.slice none 0 0, .bool false]) ∧ Below w.heap.size w w' := by
  refine (r1runes_any s w hs).mono ?_
  rintro e w' (⟨h, _⟩ | ⟨_, h1, h2⟩)
  · omega
  · exact ⟨h1, h2⟩
set_option maxHeartbeats 1600000 in
theorem rdist_any (a b : ByteArray) (w : World) (hsa : a.size ≤ 1048576) (hsb : b.size ≤ 1048576) :
    Calls Try.prog 64 #[.string a, .string b] w fun e w' => e = .returned (.int .i64 (distS a b)) ∧ Below w.heap.size w w' := by
  by_cases hga : 0 ≤ lenS a
  · have hA := Lib.hid (r1good a w hsa hga)
    by_cases hgb : 0 ≤ lenS b
    · have hBr := Lib.hid (fun w => r1good b w hsb hgb)
      have hd : distS a b = Ed.L (intsN (runesS a)) (intsN (runesS b)) (runesS a).length (runesS b).length := by unfold distS; rw [if_pos ⟨hga, hgb⟩]
      have HLE := Lib.hid (runesS_le a); have HLEB := Lib.hid (runesS_le b)
      rw [hd]
      clear hd hga hgb
      go_enter Try.func64, Try.ntmps64
      go_wp2_with fail
      refine hA.out.mono ?_
      rintro e w1 ⟨a1, c1, rfl, hh1, hb1⟩
      have H1 := Lib.hid hh1; have B1 := Lib.hid hb1
      clear hh1 hb1
      go_wp2_with fail
      refine (hBr.out _).mono ?_
      rintro e w2 ⟨a2, c2, rfl, hh2, hb2⟩
      have H2 := Lib.hid hh2; have H1b := Lib.hid (H1.out.below hb2); have B2 := Lib.hid (B1.out.trans (hb2.mono B1.out.size))
      clear hh2 hb2
      go_wp2_with fail
      refine (rruns_any (intsN (runesS a)) (intsN (runesS b)) a1 a2 _ _ c1 c2 w2 H1b.out H2.out (by have := HLE.out; omega) (by have := HLEB.out; omega)).mono ?_
      rintro e w3 ⟨rfl, hb3⟩
      have B3 := Lib.hid (B2.out.trans (hb3.mono B2.out.size))
      clear hb3
      go_wp2_with fail
      go_ret
      exact ⟨rfl, B3.out⟩
    · have hBr := Lib.hid (fun w => r1bad b w hsb (by omega))
      have hd : distS a b = -1 := by unfold distS; rw [if_neg (fun h => hgb h.2)]
      rw [hd]
      clear hd hga hgb
      go_enter Try.func64, Try.ntmps64
      go_wp2_with fail
      refine hA.out.mono ?_
      rintro e w1 ⟨a1, c1, rfl, hh1, hb1⟩
      have B1 := Lib.hid hb1
      clear hh1 hb1
      go_wp2_with fail
      refine (hBr.out _).mono ?_
      rintro e w2 ⟨rfl, hb2⟩
      have B2 := Lib.hid (B1.out.trans (hb2.mono B1.out.size))
      clear hb2
      go_wp2_with fail
      go_ret
      exact ⟨rfl, B2.out⟩
  · have hA := Lib.hid (r1bad a w hsa (by omega))
    have hd : distS a b = -1 := by unfold distS; rw [if_neg (fun h => hga h.1)]
    rw [hd]
    clear hd hga
    by_cases hgb : 0 ≤ lenS b
    · have hBr := Lib.hid (fun w => r1good b w hsb hgb)
      clear hgb
      go_enter Try.func64, Try.ntmps64
      go_wp2_with fail
      refine hA.out.mono ?_
      rintro e w1 ⟨rfl, hb1⟩
      have B1 := Lib.hid hb1
      clear hb1
      go_wp2_with fail
      refine (hBr.out _).mono ?_
      rintro e w2 ⟨a2, c2, rfl, hh2, hb2⟩
      have B2 := Lib.hid (B1.out.trans (hb2.mono B1.out.size))
      clear hb2 hh2
      go_wp2_with fail
      go_ret
      exact ⟨rfl, B2.out⟩
    · have hBr := Lib.hid (fun w => r1bad b w hsb (by omega))
      clear hgb
      go_enter Try.func64, Try.ntmps64
      go_wp2_with fail
      refine hA.out.mono ?_
      rintro e w1 ⟨rfl, hb1⟩
      have B1 := Lib.hid hb1
      clear hb1
      go_wp2_with fail
      refine (hBr.out _).mono ?_
      rintro e w2 ⟨rfl, hb2⟩
      have B2 := Lib.hid (B1.out.trans (hb2.mono B1.out.size))
      clear hb2
      go_wp2_with fail
      go_ret
      exact ⟨rfl, B2.out⟩
end Go.Proofs.Ytolggcdlpiedmaa
/- a list of texts that was answered -/
namespace Go.Proofs.Ytolggcdlpiedmaa
open Go.RowKit
set_option linter.unusedVariables false
set_option maxRecDepth 20000
theorem str_info : (Try.prog.info? 9).map (fun i => (i.zero, i.size, i.bytes)) = some (some (.string ⟨#[]⟩), 1, 16) := by kernel_rfl
theorem getD_memT' (zs : List Tx) (j : Nat) (h : j < zs.length) : zs.getD j ByteArray.empty ∈ zs := by
  rw [List.getD_eq_getElem?_getD, List.getElem?_eq_getElem h]; simp
/-- a list of texts that was answered, the call's own -/
def RetO (w : World) (ys : List Tx) (e : Ending) (w' : World) : Prop := ∃ a c, e = .returned (.slice a ys.length c) ∧ w'.ownsRow w.heap.size 9 1 (.slice a ys.length c) ys.length (strsV ys) ∧ Below w.heap.size w w'
theorem ret_own {w w' : World} {a : Option Addr} {c n : Nat} {ys zs : List Tx} (h : ys = zs) (hn : ys.length = n) (hh : w'.ownsRow w.heap.size 9 1 (.slice a n c) n (strsV ys)) (hb : Below w.heap.size w w') (v : Value) (hv : v = .slice a n c) : RetO w zs (.returned v) w' := by
  subst h hv hn; exact ⟨a, c, rfl, hh, hb⟩
end Go.Proofs.Ytolggcdlpiedmaa
/- the document's Sort, All, Top (items) -/
namespace Go.Proofs.Ytolggcdlpiedmaa
open Go.RowKit
set_option linter.unusedVariables false
set_option maxRecDepth 20000
/-- near words, as they stand -/
def nearL (ws : List Tx) (s : Tx) (k : Int) : List KV := ws.filterMap fun t => if 0 ≤ distS t s ∧ distS t s ≤ k then some (distS t s, t) else none
def allK (ws : List Tx) (s : Tx) (k : Int) : List KV := sortK (nearL ws s k)
def topK (ws : List Tx) (s : Tx) (k n : Int) : List KV := if mayP s k n then (allK ws s k).take n.toNat else []
theorem nearL_app (a b : List Tx) (s : Tx) (k : Int) : nearL (a ++ b) s k = nearL a s k ++ nearL b s k := by simp [nearL]
theorem nearL_yes (a : List Tx) (t s : Tx) (k : Int) (h : 0 ≤ distS t s ∧ distS t s ≤ k) : nearL (a ++ [t]) s k = nearL a s k ++ [(distS t s, t)] := by
  rw [nearL_app]; simp [nearL, h]
theorem nearL_no (a : List Tx) (t s : Tx) (k : Int) (h : ¬ (0 ≤ distS t s ∧ distS t s ≤ k)) : nearL (a ++ [t]) s k = nearL a s k := by
  rw [nearL_app]; simp only [nearL, List.filterMap_cons, List.filterMap_nil, if_neg h, List.append_nil]
theorem nearL_len (ws : List Tx) (s : Tx) (k : Int) : (nearL ws s k).length ≤ ws.length := List.length_filterMap_le _ _
theorem nearL_mem {ws : List Tx} {s : Tx} {k : Int} {x : KV} : x ∈ nearL ws s k ↔ x.2 ∈ ws ∧ x.1 = distS x.2 s ∧ 0 ≤ distS x.2 s ∧ distS x.2 s ≤ k := by
  unfold nearL
  rw [List.mem_filterMap]
  constructor
  · rintro ⟨t, ht, h⟩
    split at h
    · injection h with h; subst h; exact ⟨ht, rfl, by assumption⟩
    · cases h
  · rintro ⟨h1, h2, h3⟩
    exact ⟨x.2, h1, by rw [if_pos h3, ← h2]⟩
theorem allK_mem {ws : List Tx} {s : Tx} {k : Int} {x : KV} : x ∈ allK ws s k ↔ x.2 ∈ ws ∧ x.1 = distS x.2 s ∧ 0 ≤ distS x.2 s ∧ distS x.2 s ≤ k := sortK_mem.trans nearL_mem
theorem allK_len (ws : List Tx) (s : Tx) (k : Int) : (allK ws s k).length ≤ ws.length := by unfold allK; rw [sortK_length]; exact nearL_len ws s k
theorem owns_take {w : World} {B : Nat} {e : TypeId} {a : Option Addr} {n c : Nat} {ys : List KV} (h : w.ownsRow B e 2 (.slice a n c) n (keysV ys)) (k : Nat) (hk : k ≤ n) : w.ownsRow B e 2 (.slice a k c) k (keysV (ys.take k)) := by
  have hl : ys.length = n := by have := h.1; rw [keysV_len] at this; omega
  refine ⟨by rw [keysV_len]; simp; omega, ?_⟩
  rcases h.2 with ⟨h1, h2⟩ | ⟨g, cap, cur, hv, h1, h2, h3, h4, h5, h6⟩
  · cases h1
    obtain rfl : k = 0 := by omega
    exact Or.inl ⟨rfl, rfl⟩
  · cases hv
    refine Or.inr ⟨g, c, cur, rfl, h1, h2, by omega, h4, h5, ?_⟩
    have e1 : keysV ys = keysV (ys.take k) ++ keysV (ys.drop k) := by rw [← keysV_app, List.take_append_drop]
    have e2 : (cur.toList.take (n * 2)).take (k * 2) = cur.toList.take (k * 2) := by rw [List.take_take, Nat.min_eq_left (by omega)]
    rw [← e2, h6, e1, List.take_left' (by rw [keysV_len]; simp; omega)]
theorem retI_take {w w' : World} {a : Option Addr} {c n k : Nat} {ys zs : List KV} (h : ys.take k = zs) (hk : k ≤ n) (hn : ys.length = n) (hh : w'.ownsRow w.heap.size 24 2 (.slice a n c) n (keysV ys)) (hb : Below w.heap.size w w') (v : Value) (hv : v = .slice a k c) : RetI w zs (.returned v) w' :=
  retI_own h (by simp; omega) (owns_take hh k hk) hb v hv
theorem take_min {α : Type} (l : List α) (m : Nat) : l.take (min (l.length : Int) (m : Int)).toNat = l.take (m : Int).toNat := by
  by_cases h : m ≤ l.length
  · rw [show (min (l.length : Int) (m : Int)).toNat = m by omega]; rfl
  · rw [show (min (l.length : Int) (m : Int)).toNat = l.length by omega, List.take_of_length_le (Nat.le_refl _), List.take_of_length_le (by simp; omega)]
theorem rdist_lit (a b : ByteArray) (v : Int) (w : World) (hsa : a.size ≤ 1048576) (hsb : b.size ≤ 1048576) (hv : distS a b = v) :
    Calls Try.prog 64 #[.string a, .string b] w fun e w' => e = .returned (.int .i64 v) ∧ Below w.heap.size w w' := by subst hv; exact rdist_any a b w hsa hsb
set_option maxHeartbeats 1600000 in
theorem rall_any (a : Option Addr) (n cap : Nat) (ws : List Tx) (s : Tx) (k : Int) (w : World) (hh : HoldsT w a n ws) (hn : n ≤ 50000) (hl : ∀ t ∈ ws, t.size ≤ 1048576) (hs : s.size ≤ 1048576) :
    Calls Try.prog 41 #[.slice a n cap, .string s, .int .i64 k] w (RetI w (allK ws s k)) := by
  have hll := hh.len
  have HH := Lib.hid hh; have HL := Lib.hid hl
  clear hh hl
  go_enter Try.func41, Try.ntmps41
  go_wp2_with fail
  go_loopw [7, 8] (fun ov iv wr => ∃ (j : Nat) (P : List KV) (av : Option Addr) (cv : Nat), j ≤ n ∧ iv = .int .i64 j ∧ ov = .slice av P.length cv ∧ Hid (P = allK (ws.take j) s k) ∧ Hid (wr.ownsRow w.heap.size 24 2 (.slice av P.length cv) P.length (keysV P)) ∧ Hid (Below w.heap.size w wr)) (fun _ iv _ => n - (intOf iv).toNat)
  case atStart => exact ⟨0, [], none, 0, by omega, rfl, rfl, Lib.hid rfl, Lib.hid (World.ownsRow_nil _ _ _ _), Lib.hid (Below.refl _ _)⟩
  case round =>
    obtain ⟨j, P, av, cv, hj, rfl, rfl, hP, hO, hB⟩ := hrel
    by_cases hlt : j < n
    · obtain ⟨bb, o, rfl, hc⟩ := HH.out.at (by omega)
      have g0 := hc j hlt
      have HC := Lib.hid (fun (w3 : World) (hb : Below w.heap.size w w3) => show w3.cell? ⟨bb, o + j, none⟩ = some (.string (ws.getD j ByteArray.empty)) from (hb.cell (p := ⟨bb, o + j, none⟩) (lt_of_cell g0)).trans g0)
      have hmem := HL.out _ (getD_memT' ws j (by omega))
      have hyes := nearL_yes (ws.take j) (ws.getD j ByteArray.empty) s k
      have hnot := nearL_no (ws.take j) (ws.getD j ByteArray.empty) s k
      rw [← take_succ_getD ws ByteArray.empty j (by omega)] at hyes hnot
      have hpl : P.length ≤ j := by have := allK_len (ws.take j) s k; rw [← hP.out] at this; simp at this; omega
      have hPs : ∀ q ∈ P, q.2.size ≤ 1048576 := fun q hq => HL.out _ (List.mem_of_mem_take (allK_mem.1 (hP.out ▸ hq)).1)
      obtain ⟨y, hy⟩ : ∃ y, ws.getD j ByteArray.empty = y := ⟨_, rfl⟩
      rw [hy] at hmem hyes hnot
      simp only [hy] at HC
      obtain ⟨d, hd⟩ : ∃ d, distS y s = d := ⟨_, rfl⟩
      have RD := Lib.hid (fun w => rdist_lit y s d w hmem hs hd)
      rw [hd] at hyes hnot
      have HD := Lib.hid hd
      clear hc hy g0 hd
      have e0 := HC.out _ hB.out
      by_cases hk : 0 ≤ d ∧ d ≤ k
      · have hsn : allK (ws.take (j + 1)) s k = putK (d, y) P := by unfold allK; rw [hyes hk, sortK_snoc, hP.out]; rfl
        obtain ⟨hk1, hk2⟩ := hk
        have HS := Lib.hid hsn
        clear hyes hnot hsn
        go_wp2_with fail
        refine (RD.out _).mono ?_
        rintro e w2 ⟨rfl, hb⟩
        have B2 := Lib.hid (hB.out.trans (hb.mono hB.out.size))
        have O2 := Lib.hid (owns_below hO.out hb)
        have e2 := HC.out _ B2.out
        have RP := Lib.hid (rput_any av P.length cv P (d, y) w2 (HoldsK.own O2.out) (by omega) hPs hmem)
        unfold keyV at RP
        simp only at RP
        clear hb hB hO e0 hPs
        go_wp2_with fail
        refine RP.out.mono ?_
        rintro e w3 ⟨a2, c2, rfl, hown, hb⟩
        have B3 := Lib.hid (B2.out.trans (hb.mono B2.out.size))
        have O3 := Lib.hid (hown.mono' B2.out.size)
        clear hown hb B2 O2 e2
        go_wp2_with fail
        go_roundw
        case rel => exact ⟨j + 1, _, a2, c2, by omega, by go_num, rfl, Lib.hid HS.out.symm, O3, B3⟩
        case measure => simp [intOf]; omega
      · have hsn : allK (ws.take (j + 1)) s k = P := by unfold allK; rw [hnot hk, hP.out]; rfl
        have HS := Lib.hid hsn
        clear hyes hnot hsn hPs
        have hd : d < 0 ∨ (0 ≤ d ∧ k < d) := by omega
        clear hk
        rcases hd with hd | ⟨hd, hd2⟩
        all_goals
          go_wp2_with fail
          refine (RD.out _).mono ?_
          rintro e w2 ⟨rfl, hb⟩
          have B2 := Lib.hid (hB.out.trans (hb.mono hB.out.size))
          have O2 := Lib.hid (owns_below hO.out hb)
          clear hb hB hO e0
          go_wp2_with fail
          go_roundw
          case rel => exact ⟨j + 1, P, av, cv, by omega, by go_num, rfl, Lib.hid HS.out.symm, O2, B2⟩
          case measure => simp [intOf]; omega
    · have hjn : ws.take j = ws := List.take_of_length_le (by omega)
      have hP2 := hP.out
      rw [hjn] at hP2
      have HP := Lib.hid hP2
      clear hP hP2 hjn
      go_wp2_with fail
      go_ret
      exact retI_own HP.out rfl hO.out hB.out _ rfl
end Go.Proofs.Ytolggcdlpiedmaa
/- what one list has without another one: plain -/
namespace Go.Proofs.Ytolggcdlpiedmaa
open Go.RowKit
set_option linter.unusedVariables false
set_option maxRecDepth 20000
theorem filter_snoc (p : Tx → Bool) (xs : List Tx) (x : Tx) : (xs ++ [x]).filter p = xs.filter p ++ (if p x then [x] else []) := by
  rw [List.filter_append]; by_cases h : p x <;> simp [h]
def lessOf (xs ys : List Tx) : List Tx := xs.filter fun t => !decide (t ∈ ys)
theorem lessOf_yes (ys xs : List Tx) (x : Tx) (h : x ∈ ys) : lessOf (xs ++ [x]) ys = lessOf xs ys := by
  unfold lessOf; rw [filter_snoc, if_neg (by simp [h])]; simp
theorem lessOf_no (ys xs : List Tx) (x : Tx) (h : ¬ x ∈ ys) : lessOf (xs ++ [x]) ys = lessOf xs ys ++ [x] := by
  unfold lessOf; rw [filter_snoc, if_pos (by simp [h])]
theorem lessOf_len (xs ys : List Tx) : (lessOf xs ys).length ≤ xs.length := List.length_filter_le _ _
end Go.Proofs.Ytolggcdlpiedmaa
/- items in order: what the laws of ranking ask of them: plain -/
namespace Go.Proofs.Ytolggcdlpiedmaa
set_option linter.unusedVariables false
set_option maxRecDepth 20000
theorem sortK_cons {x : KV} {l : List KV} (h : ∀ z ∈ l, leK x z) : sortK (x :: l) = x :: sortK l :=
  (sortK_of (List.pairwise_cons.2 ⟨fun z hz => h z (sortK_mem.1 hz), sortK_sorted l⟩) ((sortK_perm l).cons x)).symm
theorem sortK_filter (p : KV → Bool) (l : List KV) : sortK (l.filter p) = (sortK l).filter p :=
  (sortK_of (List.Pairwise.filter p (sortK_sorted l)) ((sortK_perm l).filter p)).symm
theorem nearL_cons (t : Tx) (ws : List Tx) (s : Tx) (k : Int) : nearL (t :: ws) s k = (if 0 ≤ distS t s ∧ distS t s ≤ k then [(distS t s, t)] else []) ++ nearL ws s k := by
  unfold nearL; rw [List.filterMap_cons]
  by_cases h : 0 ≤ distS t s ∧ distS t s ≤ k
  · simp [h]
  · simp only [if_neg h, List.nil_append]
theorem nearL_within (ws : List Tx) (s : Tx) (k m : Int) (h : k ≤ m) : (nearL ws s m).filter (fun x => decide (x.1 ≤ k)) = nearL ws s k := by
  induction ws with
  | nil => rfl
  | cons t ws ih =>
    rw [nearL_cons, nearL_cons, List.filter_append, ih]
    congr 1
    by_cases h1 : 0 ≤ distS t s ∧ distS t s ≤ k
    · rw [if_pos h1, if_pos ⟨h1.1, by omega⟩]; simp [h1.2]
    · rw [if_neg h1]
      split
      · simp; omega
      · rfl
theorem allK_prefix (ws : List Tx) (s : Tx) (k m : Int) (h : k ≤ m) : allK ws s k <+: allK ws s m := by
  refine ⟨sortK ((nearL ws s m).filter fun x => !decide (x.1 ≤ k)), ?_⟩
  unfold allK
  refine sortK_of ?_ ?_
  · refine List.pairwise_append.2 ⟨sortK_sorted _, sortK_sorted _, fun x hx y hy => ?_⟩
    have h1 := (nearL_mem.1 (sortK_mem.1 hx)).2
    have h2 := (List.mem_filter.1 (sortK_mem.1 hy)).2
    have h3 : k < y.1 := by simpa using h2
    exact leK_of_lt (ordK_lt.2 (Or.inl (by have := h1.1; have := h1.2.2; omega)))
  · refine ((sortK_perm _).append (sortK_perm _)).trans ?_
    rw [← nearL_within ws s k m h]
    exact List.filter_append_perm _ _
theorem prefix_at {α : Type} {xs ys : List α} (h : xs <+: ys) : xs.length ≤ ys.length ∧ ys.take xs.length = xs := ⟨h.length_le, (List.prefix_iff_eq_take.1 h).symm⟩
/-- what RankMore asks -/
theorem top_more_n (ws : List Tx) (s : Tx) (k m j : Int) (h : mayP s k m) (h0 : 0 ≤ j) (h1 : mayP s k (m + j)) : topK ws s k m <+: topK ws s k (m + j) := by
  unfold topK; rw [if_pos h, if_pos h1]
  exact List.take_prefix_take_left (by omega)
theorem top_more_k (ws : List Tx) (s : Tx) (k m : Int) (h : mayP s k m) (h1 : mayP s (k + 1) m) : topK ws s k m <+: topK ws s (k + 1) m := by
  unfold topK; rw [if_pos h, if_pos h1]
  obtain ⟨r, hr⟩ := allK_prefix ws s k (k + 1) (by omega)
  rw [← hr, List.take_append]
  exact List.prefix_append _ _
/-- what RankFar asks -/
theorem near_some (ws : List Tx) (s : Tx) (k : Int) : nearL (ws.filter fun t => decide (distS t s ≤ k)) s k = nearL ws s k := by
  induction ws with
  | nil => rfl
  | cons t ws ih =>
    rw [nearL_cons, List.filter_cons]
    by_cases h : distS t s ≤ k
    · rw [if_pos (by simpa using h), nearL_cons, ih]
    · rw [if_neg (by simpa using h), ih, if_neg (by omega)]; rfl
theorem top_some (ws : List Tx) (s : Tx) (k m : Int) : topK (ws.filter fun t => decide (distS t s ≤ k)) s k m = topK ws s k m := by
  unfold topK allK; rw [near_some]
theorem near_filter (p : Tx → Bool) (ws : List Tx) (s : Tx) (k : Int) : nearL (ws.filter p) s k = (nearL ws s k).filter fun x => p x.2 := by
  induction ws with
  | nil => rfl
  | cons t ws ih =>
    rw [nearL_cons, List.filter_append, List.filter_cons]
    by_cases h : p t = true
    · rw [if_pos h, nearL_cons, ih]
      congr 1
      split <;> simp [h]
    · rw [if_neg h, ih]
      have : (if 0 ≤ distS t s ∧ distS t s ≤ k then [(distS t s, t)] else []).filter (fun x => p x.2) = [] := by split <;> simp [h]
      rw [this]; rfl
theorem sorted_ne {xs : List Tx} (h : SortedS xs) : xs.Pairwise (· ≠ ·) := h.imp fun {a b} hab => by
  intro e; subst e; exact cmpS_irrefl a hab
theorem near_ne {ws : List Tx} (h : SortedS ws) (s : Tx) (k : Int) : (nearL ws s k).Pairwise fun a b => a.2 ≠ b.2 := by
  have h0 := sorted_ne h
  induction ws with
  | nil => exact List.Pairwise.nil
  | cons t ws ih =>
    obtain ⟨h1, h2⟩ := List.pairwise_cons.1 h0
    rw [nearL_cons]
    split
    · refine List.pairwise_cons.2 ⟨fun x hx e => h1 x.2 (nearL_mem.1 hx).1 e, ih (List.pairwise_cons.1 h).2 h2⟩
    · exact ih (List.pairwise_cons.1 h).2 h2
theorem all_ne {ws : List Tx} (h : SortedS ws) (s : Tx) (k : Int) : (allK ws s k).Pairwise fun a b => a.2 ≠ b.2 :=
  (sortK_perm _).symm.pairwise (near_ne h s k) fun h => Ne.symm h
theorem filter_one {L : List KV} (h : L.Pairwise fun a b => a.2 ≠ b.2) (i : Nat) (hi : i < L.length) : L.filter (fun x => !decide (x.2 ∈ [(L.getD i k0).2])) = L.take i ++ L.drop (i + 1) := by
  have e : L.getD i k0 = L[i] := by simp [List.getD_eq_getElem?_getD, hi]
  rw [e]
  obtain ⟨x, hx⟩ : ∃ x, L[i] = x := ⟨_, rfl⟩
  have e2 : L = L.take i ++ (x :: L.drop (i + 1)) := by rw [← hx, ← List.drop_eq_getElem_cons hi, List.take_append_drop]
  rw [hx]
  have hp := h
  rw [e2] at hp
  obtain ⟨p1, p2, p3⟩ := List.pairwise_append.1 hp
  obtain ⟨p4, p5⟩ := List.pairwise_cons.1 p2
  conv => lhs; rw [e2]
  rw [List.filter_append, List.filter_cons, if_neg (by simp)]
  rw [List.filter_eq_self.2 fun x hx => by simpa using p3 x hx _ (by simp), List.filter_eq_self.2 fun x hx => by simpa using (p4 x hx).symm]
theorem top_without {ws : List Tx} (h : SortedS ws) (s : Tx) (k m : Int) (hm : mayP s k m) (i : Nat) (hi : i < (topK ws s k m).length) :
    (topK ws s k m).take i ++ (topK ws s k m).drop (i + 1) <+: topK (lessOf ws [((topK ws s k m).getD i k0).2]) s k m := by
  unfold topK at hi ⊢
  simp only [if_pos hm] at hi ⊢
  obtain ⟨N, hN⟩ : ∃ N, m.toNat = N := ⟨_, rfl⟩
  rw [hN] at hi ⊢
  have hl : i < (allK ws s k).length := by rw [List.length_take] at hi; omega
  have hi' : i < N := by rw [List.length_take] at hi; omega
  have e1 : ((allK ws s k).take N).getD i k0 = (allK ws s k).getD i k0 := by simp [List.getD_eq_getElem?_getD, hi']
  rw [e1]
  have e2 : allK (lessOf ws [((allK ws s k).getD i k0).2]) s k = (allK ws s k).take i ++ (allK ws s k).drop (i + 1) := by
    rw [← filter_one (all_ne h s k) i hl]
    unfold allK lessOf
    rw [near_filter, sortK_filter]
  rw [e2]
  generalize allK ws s k = L at *
  rw [List.take_take, Nat.min_eq_left (by omega), List.drop_take, List.take_append, List.length_take, Nat.min_eq_left (by omega), List.take_take, Nat.min_eq_right (by omega)]
  exact List.prefix_append_right_inj _ |>.2 (List.take_prefix_take_left (by omega))
/-- what RankParts asks -/
theorem near_perm {a b : List Tx} (h : a.Perm b) (s : Tx) (k : Int) : (nearL a s k).Perm (nearL b s k) := h.filterMap _
theorem merge_perm {a b : List Tx} (ha : SortedS a) (hb : SortedS b) : (mergeL a b).Perm (a ++ lessOf b a) := by
  have n1 : (mergeL a b).Nodup := sorted_ne (mergeL_sorted _ a b (Nat.le_refl _) ha hb)
  have n2 : (a ++ lessOf b a).Nodup := by
    refine List.pairwise_append.2 ⟨sorted_ne ha, sorted_ne (sorted_filter _ hb), fun x hx y hy e => ?_⟩
    subst e
    have := (List.mem_filter.1 hy).2
    simp [hx] at this
  refine (List.perm_ext_iff_of_nodup n1 n2).2 fun z => ?_
  rw [mem_mergeL, List.mem_append]
  unfold lessOf
  rw [List.mem_filter]
  by_cases h : z ∈ a <;> simp [h]
theorem all_parts {a b : List Tx} (ha : SortedS a) (hb : SortedS b) (s : Tx) (k : Int) : sortK (allK a s k ++ allK (lessOf b a) s k) = allK (mergeL a b) s k := by
  refine sortK_congr (((sortK_perm _).append (sortK_perm _)).trans ?_)
  rw [← nearL_app]
  exact (near_perm (merge_perm ha hb) s k).symm
theorem sortK_take : ∀ (N : Nat) (A C : List KV) (M1 M2 : Nat), SortedK A → SortedK C → N ≤ M1 → N ≤ M2 → (sortK (A.take M1 ++ C.take M2)).take N = (sortK (A ++ C)).take N := by
  intro N
  induction N with
  | zero => intros; simp
  | succ N ih =>
    intro A C M1 M2 hA hC h1 h2
    obtain ⟨M1, rfl⟩ : ∃ q, M1 = q + 1 := ⟨M1 - 1, by omega⟩
    obtain ⟨M2, rfl⟩ : ∃ q, M2 = q + 1 := ⟨M2 - 1, by omega⟩
    have first : ∀ (x : KV) (A C : List KV) (M1 M2 : Nat), SortedK (x :: A) → SortedK C → (∀ z ∈ C, leK x z) → N ≤ M1 → N + 1 ≤ M2 → (sortK ((x :: A).take (M1 + 1) ++ C.take M2)).take (N + 1) = (sortK ((x :: A) ++ C)).take (N + 1) := by
      intro x A C M1 M2 hA hC hz h1 h2
      obtain ⟨a1, a2⟩ := List.pairwise_cons.1 hA
      rw [List.take_succ_cons, List.cons_append, List.cons_append, sortK_cons, sortK_cons, List.take_succ_cons, List.take_succ_cons, ih A C M1 M2 a2 hC h1 (by omega)]
      · intro z hz'
        rcases List.mem_append.1 hz' with e | e
        · exact a1 z e
        · exact hz z e
      · intro z hz'
        rcases List.mem_append.1 hz' with e | e
        · exact a1 z (List.mem_of_mem_take e)
        · exact hz z (List.mem_of_mem_take e)
    match A, C, hA, hC with
    | [], [], _, _ => simp
    | x :: A, [], hA, hC => exact first x A [] M1 (M2 + 1) hA hC (by simp) (by omega) (by omega)
    | [], y :: C, hA, hC =>
      have := first y C [] M2 (M1 + 1) hC List.Pairwise.nil (by simp) (by omega) (by omega)
      simpa using this
    | x :: A, y :: C, hA, hC =>
      rcases leK_total x y with e | e
      · refine first x A (y :: C) M1 (M2 + 1) hA hC (fun z hz => ?_) (by omega) (by omega)
        rcases List.mem_cons.1 hz with rfl | hz
        · exact e
        · exact leK_trans e ((List.pairwise_cons.1 hC).1 z hz)
      · have := first y C (x :: A) M2 (M1 + 1) hC hA (fun z hz => by
          rcases List.mem_cons.1 hz with rfl | hz
          · exact e
          · exact leK_trans e ((List.pairwise_cons.1 hA).1 z hz)) (by omega) (by omega)
        rw [sortK_congr (List.perm_append_comm (l₁ := (x :: A).take (M1 + 1)) (l₂ := (y :: C).take (M2 + 1))), sortK_congr (List.perm_append_comm (l₁ := x :: A) (l₂ := y :: C))]
        exact this
theorem top_parts {a b : List Tx} (ha : SortedS a) (hb : SortedS b) (s : Tx) (k m : Int) (hm : mayP s k m) : topK (mergeL a b) s k m <+: sortK (topK a s k m ++ topK (lessOf b a) s k m) := by
  unfold topK
  simp only [if_pos hm]
  rw [← all_parts ha hb, ← sortK_take m.toNat (allK a s k) (allK (lessOf b a) s k) m.toNat m.toNat (sortK_sorted _) (sortK_sorted _) (Nat.le_refl _) (Nat.le_refl _)]
  exact List.take_prefix _ _
end Go.Proofs.Ytolggcdlpiedmaa
/- one rune's text: plain -/
namespace Go.Proofs.Ytolggcdlpiedmaa
open Go.RowKit
set_option linter.unusedVariables false
set_option maxRecDepth 20000
theorem ro_decodeN_of_enc (n r w b0 b1 b2 b3 : Nat) (h : Enc r w b0 b1 b2 b3) (hw : w ≤ n) (hs : r < 55296 ∨ 57343 < r) : Lib.decodeN n b0 b1 b2 b3 = (r, w) := by
  unfold Lib.decodeN
  rcases h with ⟨rfl, rfl, h⟩ | ⟨rfl, h0, h1, h2, h3⟩ | ⟨rfl, h0, h1, h2, h3, h4⟩ | ⟨rfl, h0, h1, h2, h3, h4, h5⟩
  · rw [if_pos h]
  · rw [if_neg (by omega), if_pos (by omega)]
    have e : b0 % 32 * 64 + b1 % 64 = r := by omega
    simp only [e]
    rw [if_pos (by omega)]
  · rw [if_neg (by omega), if_neg (by omega), if_pos (by omega)]
    have e : b0 % 16 * 4096 + b1 % 64 * 64 + b2 % 64 = r := by omega
    simp only [e]
    rw [if_pos (by omega)]
  · rw [if_neg (by omega), if_neg (by omega), if_neg (by omega), if_pos (by omega)]
    have e : b0 % 8 * 262144 + b1 % 64 * 4096 + b2 % 64 * 64 + b3 % 64 = r := by omega
    simp only [e]
    rw [if_pos (by omega)]
/-- the text of some runes has these -/
theorem getB (b : ByteArray) (i : Nat) (h : i < b.size) (h2 : i < b.data.toList.length) : b[i]'h = b.data.toList[i] := by
  cases b with | mk d => simp [ByteArray.getElem_eq_getElem_data]
theorem ro_runes_one (r : Nat) (h : goodP (r : Int)) : runesS (Utf8.encode (r : Int)) = [r] ∧ 0 ≤ lenS (Utf8.encode (r : Int)) := by
  obtain ⟨g0, g1, g2, g3⟩ := h
  obtain ⟨w, b0, b1, b2, b3, e⟩ : ∃ w b0 b1 b2 b3, Enc r w b0 b1 b2 b3 := by
    by_cases h1 : r < 128
    · exact ⟨1, r, 0, 0, 0, Or.inl ⟨rfl, rfl, h1⟩⟩
    by_cases h2 : r < 2048
    · exact ⟨2, _, _, 0, 0, Or.inr (Or.inl ⟨rfl, rfl, rfl, by omega, h2⟩)⟩
    by_cases h3 : r < 65536
    · exact ⟨3, _, _, _, 0, Or.inr (Or.inr (Or.inl ⟨rfl, rfl, rfl, rfl, by omega, h3⟩))⟩
    · exact ⟨4, _, _, _, _, Or.inr (Or.inr (Or.inr ⟨rfl, rfl, rfl, rfl, rfl, by omega, by omega⟩))⟩
  have hw := ue_enc_width e
  have hs : r < 55296 ∨ 57343 < r := by omega
  have hb : b0 < 256 ∧ (2 ≤ w → b1 < 256) ∧ (3 ≤ w → b2 < 256) ∧ (4 ≤ w → b3 < 256) := by unfold Enc at e; omega
  have hl := encode_enc r w b0 b1 b2 b3 e hs
  have hsz : (Utf8.encode (r : Int)).size = w := by
    have h1 := congrArg List.length hl
    rw [show (Utf8.encode (r : Int)).size = (Utf8.encode (r : Int)).data.toList.length by simp, h1]; simp; omega
  have hbt : ∀ i, i < w → byteS (Utf8.encode (r : Int)) i = [b0, b1, b2, b3].getD i 0 := by
    intro i hi
    have hi4 : i = 0 ∨ i = 1 ∨ i = 2 ∨ i = 3 := by omega
    rw [← byteS_at _ i (by omega)]
    have hx : (Utf8.encode (r : Int))[i]'(by omega) = UInt8.ofNat ([b0, b1, b2, b3].getD i 0) := by
      have h5 : i < (Utf8.encode (r : Int)).data.toList.length := by have := hsz; simp; omega
      have h6 : (Utf8.encode (r : Int))[i]'(by omega) = (Utf8.encode (r : Int)).data.toList[i] := getB _ _ _ _
      rw [h6]
      simp only [hl, List.getElem_map, List.getElem_take]
      rcases hi4 with rfl | rfl | rfl | rfl <;> rfl
    rw [hx, UInt8.toNat_ofNat']
    rcases hi4 with rfl | rfl | rfl | rfl <;> simp <;> omega
  have hd : Utf8.decode (Utf8.encode (r : Int)) 0 = (r, w) := by
    rw [decode_bytes]
    apply ro_decodeN_of_enc _ _ _ _ _ _ _ _ (by omega) hs
    have t0 := hbt 0 (by omega)
    simp only [List.getD_cons_zero] at t0
    unfold Enc at e ⊢
    simp only [Nat.zero_add]
    rw [t0]
    rcases e with e | e | e | e
    · exact Or.inl e
    · have t1 := hbt 1 (by omega)
      simp at t1
      rw [t1]; exact Or.inr (Or.inl e)
    · have t1 := hbt 1 (by omega)
      have t2 := hbt 2 (by omega)
      simp at t1 t2
      rw [t1, t2]; exact Or.inr (Or.inr (Or.inl e))
    · have t1 := hbt 1 (by omega)
      have t2 := hbt 2 (by omega)
      have t3 := hbt 3 (by omega)
      simp at t1 t2 t3
      rw [t1, t2, t3]; exact Or.inr (Or.inr (Or.inr e))
  have hr : runesS (Utf8.encode (r : Int)) = [r] := by
    show runesN _ _ 0 = _
    obtain ⟨g, hg, hst, _⟩ := runesN_step (Utf8.encode (r : Int)) (Utf8.encode (r : Int)).size 0 (by omega) (by omega)
    rw [hst, hd, runesN_end _ _ _ (by simp only; omega)]
  refine ⟨hr, ?_⟩
  rw [lenS_good (by rw [hr]; intro q hq; simp at hq; rw [hq]; omega), hr]
  simp
/-- the text of a rune that stands first in a well made text -/
theorem enc_lab {t : Tx} (h : 0 ≤ lenS t) (h0 : 0 < t.size) : runesS (Utf8.encode (labS t : Int)) = [labS t] ∧ lenS (Utf8.encode (labS t : Int)) = 1 ∧ (Utf8.encode (labS t : Int)).size ≤ 4 := by
  obtain ⟨h1, h2, -⟩ := good_first h h0
  obtain ⟨e1, e2⟩ := ue_read_well t 0 h0 h1
  have hw := ue_enc_width e1
  have hg : goodP (labS t : Int) := by
    have hl : labS t = (Utf8.decode t 0).1 := rfl
    rw [hl]; unfold goodP; omega
  have h3 := ro_runes_one (labS t) hg
  refine ⟨h3.1, ?_, ?_⟩
  · have := (lenS_pos h3.2).2
    rw [h3.1] at this; simpa using this
  · have h5 := encode_enc _ _ _ _ _ _ e1 e2
    have h6 := congrArg List.length h5
    have h7 : (Utf8.encode (labS t : Int)).size = (Utf8.encode (labS t : Int)).data.toList.length := by simp
    have hl : labS t = (Utf8.decode t 0).1 := rfl
    rw [h7, hl, h6]; simp; omega
end Go.Proofs.Ytolggcdlpiedmaa
/- walk: what a stack of steps still tells: plain -/
namespace Go.Proofs.Ytolggcdlpiedmaa
open Go.RowKit
set_option linter.unusedVariables false
set_option maxRecDepth 20000
/-- what is near s of the texts that begin with p and go on with l -/
def subW (p s : Tx) (k : Int) (l : List Tx) : List KV := nearL (l.map (fun x => p ++ x)) s k
theorem subW_app (p s : Tx) (k : Int) (a b : List Tx) : subW p s k (a ++ b) = subW p s k a ++ subW p s k b := by simp [subW, nearL_app]
/-- the automaton's state of s behind p -/
def stW (s : Tx) (k : Int) (p : Tx) : List PV := Au.st (intsN (runesS s)) (intsN (runesS p)) k (runesS p).length
theorem getD_ints (l m : List Nat) (t : Nat) (h : t < l.length) : (intsN (l ++ m)).getD t 0 = (intsN l).getD t 0 := by
  simp only [intsN, List.map_append, List.getD_eq_getElem?_getD]
  rw [List.getElem?_append_left (by simpa using h)]
theorem getD_intsR (l : List Nat) (r : Nat) (m : List Nat) : (intsN (l ++ r :: m)).getD l.length 0 = (r : Int) := by
  simp [intsN, List.getD_eq_getElem?_getD]
theorem stW_pre (s : Tx) (k : Int) (p : Tx) (m : List Nat) : Au.st (intsN (runesS s)) (intsN (runesS p ++ m)) k (runesS p).length = stW s k p :=
  Au.st_pre _ _ (fun t ht => getD_ints _ _ t ht)
theorem stW_dist {s p : Tx} {k : Int} (hs : 0 ≤ lenS s) (hp : 0 ≤ lenS p) (hk : 0 ≤ k) : Au.dmin (stW s k p) (runesS s).length k = min (distS p s) (k + 1) := by
  have h := Au.st_whole (q := intsN (runesS s)) (p := intsN (runesS p)) hk (runesS p).length
  rw [intsN_length] at h
  unfold stW
  rw [h, distS, if_pos ⟨hp, hs⟩, Ed.L_sym]
theorem st_deads {q p : List Int} {k : Int} (hk : 0 ≤ k) {j : Nat} (h : Au.st q p k j = []) : ∀ d, Au.st q p k (j + d) = []
  | 0 => h
  | d + 1 => Au.st_dead hk (st_deads hk h d)
theorem stW_dead {s p : Tx} {k : Int} (hs : 0 ≤ lenS s) (hp : 0 ≤ lenS p) (hk : 0 ≤ k) (h : stW s k p = []) (t : Tx) (ht : 0 ≤ lenS t) : k < distS (p ++ t) s := by
  have h1 : 0 ≤ lenS (p ++ t) := by rw [lenS_join p t hp ht]; omega
  have h2 := stW_dist hs h1 hk
  have h3 : stW s k (p ++ t) = [] := by
    unfold stW
    rw [runesS_join p t hp, List.length_append]
    refine st_deads hk ?_ _
    rw [stW_pre]; exact h
  rw [h3] at h2
  have h4 : Au.dmin [] (runesS s).length k = k + 1 := rfl
  rw [h4] at h2
  omega
theorem subW_dead {s p : Tx} {k : Int} (hs : 0 ≤ lenS s) (hp : 0 ≤ lenS p) (hk : 0 ≤ k) (h : stW s k p = []) (l : List Tx) (hl : ∀ t ∈ l, 0 ≤ lenS t) : subW p s k l = [] := by
  unfold subW nearL
  rw [List.filterMap_eq_nil_iff]
  intro x hx
  obtain ⟨t, ht, rfl⟩ := List.mem_map.1 hx
  have := stW_dead hs hp hk h t (hl t ht)
  rw [if_neg (by omega)]
theorem subW_final {s p : Tx} {k : Int} (l : List Tx) : subW p s k l = (if finS l = true ∧ 0 ≤ distS p s ∧ distS p s ≤ k then [(distS p s, p)] else []) ++ subW p s k (bodS l) := by
  unfold bodS
  cases hb : finS l with
  | false => simp
  | true =>
    have hhd : l.head? = some (⟨#[]⟩ : ByteArray) := of_decide_eq_true hb
    cases l with
    | nil => cases hhd
    | cons t l2 =>
      rw [List.head?_cons] at hhd
      injection hhd with hhd
      subst hhd
      have hp : p ++ (⟨#[]⟩ : ByteArray) = p := by apply ByteArray.ext; simp
      simp only [if_true, List.tail_cons, true_and, subW, List.map_cons, hp]
      rw [nearL_cons]
/-- the texts that are left when j edges have been gone along -/
def dropE : Nat → List Tx → List Tx
  | 0, l => l
  | j + 1, l => (dropE j l).drop (folS (dropE j l)).2.length
theorem EdOk.at {R : List (List Tx)} {es : List EdP} {l : List Tx} (h : EdOk R l es) : ∀ j, j ≤ es.length → EdOk R (dropE j l) (es.drop j)
  | 0, _ => by simpa [dropE] using h
  | j + 1, hj => by
    have h1 := EdOk.at h j (by omega)
    rw [drop_ed es j (by omega)] at h1
    exact h1.2.2.2
theorem EdOk.end {R : List (List Tx)} {es : List EdP} {l : List Tx} (h : EdOk R l es) : dropE es.length l = [] := by
  have := h.at es.length (Nat.le_refl _)
  rw [List.drop_length] at this
  exact this
theorem dropE_run {l : List Tx} (h : Run l) : ∀ j, Run (dropE j l)
  | 0 => h
  | j + 1 => (dropE_run h j).drop _
theorem dropE_ok {f : Nat} {l : List Tx} (h : OkL f l) : ∀ j, OkL f (dropE j l)
  | 0 => h
  | j + 1 => (dropE_ok h j).drop _
theorem dropE_mem {l : List Tx} {t : Tx} : ∀ j, t ∈ dropE j l → t ∈ l
  | 0, h => h
  | j + 1, h => dropE_mem j (List.mem_of_mem_drop h)
/-- along one edge -/
theorem subW_edge {s p : Tx} {k : Int} {l : List Tx} (h : Run l) (h0 : l ≠ []) : subW p s k l = subW (p ++ Utf8.encode ((folS l).1 : Int)) s k (folS l).2 ++ subW p s k (l.drop (folS l).2.length) := by
  conv => lhs; rw [← List.take_append_drop (folS l).2.length l, subW_app]
  congr 1
  unfold subW
  rw [fol_map h h0 p]
/-- a step along an edge: the text's runes, its state -/
theorem edge_text {p : Tx} {l : List Tx} (hp : 0 ≤ lenS p) (h : Run l) (h0 : l ≠ []) :
    lenS (p ++ Utf8.encode ((folS l).1 : Int)) = lenS p + 1 ∧ runesS (p ++ Utf8.encode ((folS l).1 : Int)) = runesS p ++ [(folS l).1] := by
  cases l with
  | nil => exact absurd rfl h0
  | cons t l =>
    have ht := h.lo t (by simp)
    have hz := h.pos t (by simp)
    have e1 : (folS (t :: l)).1 = labS t := rfl
    rw [e1]
    obtain ⟨e2, e3, e4⟩ := enc_lab ht hz
    rw [lenS_join p _ hp (by omega), runesS_join p _ hp, e2, e3]
    exact ⟨rfl, rfl⟩
/-- a step of the stack: its node, what leads to it, what goes on from there, the state, where it lies -/
structure SM where
  node : Nat
  pre : Tx
  l : List Tx
  S : List PV
  a : Option Addr
  c : Nat
structure SMOk (R : List (List Tx)) (ts : List Tx) (s : Tx) (k : Int) (e : SM) : Prop where
  at_ : R[e.node]? = some e.l
  ok : OkL 12 e.l
  lo : 0 ≤ lenS e.pre
  st : e.S = stW s k e.pre
  sub : ∀ t ∈ e.l, e.pre ++ t ∈ ts
  sz : e.pre.size ≤ 100
  len : lenS e.pre ≤ 12
def outW (s : Tx) (k : Int) (K : List SM) : List KV := K.foldr (fun e r => r ++ subW e.pre s k e.l) []
theorem outW_nil (s : Tx) (k : Int) : outW s k [] = [] := rfl
theorem outW_app (s : Tx) (k : Int) : ∀ (K M : List SM), outW s k (K ++ M) = outW s k M ++ outW s k K
  | [], M => by simp [outW]
  | e :: K, M => by
    show outW s k (K ++ M) ++ _ = outW s k M ++ (outW s k K ++ _)
    rw [outW_app s k K M, List.append_assoc]
theorem outW_one (s : Tx) (k : Int) (e : SM) : outW s k [e] = subW e.pre s k e.l := by simp [outW]
def muW (K : List SM) : Nat := (K.map (fun e => wtS e.l + 1)).sum
theorem muW_app (K M : List SM) : muW (K ++ M) = muW K + muW M := by simp [muW]
theorem muW_one (e : SM) : muW [e] = wtS e.l + 1 := by simp [muW]
theorem muW_len : ∀ K : List SM, K.length ≤ muW K
  | [] => Nat.zero_le _
  | e :: K => by
    have := muW_len K
    simp only [muW, List.map_cons, List.sum_cons, List.length_cons] at this ⊢; omega
end Go.Proofs.Ytolggcdlpiedmaa
/- walk: slices.Backward over edges; a row that grows within a round -/
namespace Go.Proofs.Ytolggcdlpiedmaa
open Go.RowKit Go.Shelf
set_option linter.unusedVariables false
set_option maxRecDepth 20000
attribute [local go_sem] Oper.semAt_some
theorem wpListIn_append_lies {F : Fence} {n : Nat} {P : Program} (w : World) {ops : Array Oper} {rest : List Oper} {o : Oper} {a : Act} {Q : Exit → Act → World → Prop}
    (hg : o.guard = none) (s x : Operand) (t : TypeId) (hop : o.op = Op.call { callee := Callee.builtin Builtin.append, args := #[s, x], argTypes := #[t, t] })
    (base : Nat) (e : TypeId) (i : TypeInfo) (z : Value) (size bytes : Nat) (h1 : P.underlying t = some (.slice e)) (h2 : P.info? e = some i) (h3 : i.zero = some z) (h4 : i.size = size) (h5 : i.bytes = bytes) (h6 : z.cells.size = size) (h7 : 0 < size)
    (v : Value) (k : Nat) (xs : List Value) (hs : a.eval s = v) (hown : w.ownsRow base e size v k xs) (ad : Addr) (m c : Nat) (news : List Value) (hx : a.eval x = .slice (some ad) m c) (hn : news.length = m * size)
    (hc : ∀ j u, news[j]? = some u → w.cell? (ad.add j) = some u) (h1c : ∀ u ∈ news, u.oneCell' = true) (hm : 0 < m) (b1 : k + m ≤ maxLen) (b2 : (k + m) * bytes ≤ 140737488355328) (b3 : base ≤ w.heap.size) (H : Nat) (hH : w.heap.size = H)
    (hK : ∀ g cap w', w'.ownsRow base e size (.slice (some ⟨g, 0, none⟩) (k + m) cap) (k + m) (xs ++ news) → w.grownBy w' v.ownBlock → (v.ownBlock = some g ∨ g = H) → g < w'.heap.size → wpListIn F n P ops Q rest (a.put o.dst (.slice (some ⟨g, 0, none⟩) (k + m) cap)) w') :
    wpListIn F n P ops Q (o :: rest) a w := by
  refine wpListIn_plain hg fun K hK' => ?_
  obtain ⟨g, cap, w', hrun, r1, r2, r3, r4⟩ := run_append_lies (P := P) w t o.type base e i z size bytes h1 h2 h3 h4 h5 h6 h7 v k xs hown ad m c news hn hc h1c hm b1 b2 b3 H hH
  unfold Oper.wpIn
  refine ⟨?_, ?_⟩
  · simp [Oper.about, hop, resolve, Target.leads, Sem.run_pure]
  · rw [Oper.semAt_plain F _ _ (by rw [hop]; intro c hc'; cases hc')]
    simp [execOp, hop, resolve, invoke, builtin, hs, hx, hrun, Result.andThen]
    exact hK' _ _ (hK g cap w' r1 r2 r3 r4)
/-- the places of m edges -/
abbrev IdxE (m : Nat) := { i : Nat // i < m }
def encE (es : List EdP) (m : Nat) (x : IdxE m) : Array Value := #[.int .i64 (x.1 : Int), .agg #[.int .i32 (es.getD x.1 ed0).r, .int .i64 (es.getD x.1 ed0).dst]]
/-- the list's box and its edges stay -/
def KpE (Bs : Nat) (ea : Option Addr) (A C : World) : Prop := ∀ k, (k = Bs ∨ ∃ o, ea = some ⟨k, o, none⟩) → C.heap[k]? = A.heap[k]?
theorem KpE.trans {Bs : Nat} {ea : Option Addr} {A C D : World} (h : KpE Bs ea A C) (k : KpE Bs ea C D) : KpE Bs ea A D := fun i hi => (k i hi).trans (h i hi)
theorem KpE.refl (Bs : Nat) (ea : Option Addr) (A : World) : KpE Bs ea A A := fun _ _ => rfl
theorem drop_one (m t : Nat) (h : t < m) : ((List.range m).drop t).reverse = ((List.range m).drop (t + 1)).reverse ++ [t] := by
  rw [List.drop_eq_getElem_cons (by simpa using h)]
  simp
set_option maxRecDepth 100000 in
set_option maxHeartbeats 2000000 in
theorem back1_in (l Bs m cap n : Nat) (ea : Option Addr) (es : List EdP) (hn : 1 ≤ n) (hm : m ≤ 100000) (J Jx : List (IdxE m) → World → Prop)
    (hY : ∀ pre x W, J pre W → pre.length < m → YieldAt Fence.wide (n - 1) Try.prog l (encE es m x) W fun e W' => (e = .returned (.bool true) ∧ J (pre ++ [x]) W' ∧ KpE Bs ea W W') ∨ (e = .returned (.bool false) ∧ Jx (pre ++ [x]) W'))
    (W : World) (hB : W.cell? ⟨Bs, 0, none⟩ = some (.slice ea m cap)) (hE : HoldsEd W ea m es) (h0 : J [] W) :
    CallsIn Fence.wide n Try.prog 79 #[.func (.yield l) #[] #[], .pointer (some ⟨Bs, 0, none⟩)] W fun e W' => (∃ v, e = .returned v) ∧
      ((∃ xs : List (IdxE m), xs.map (·.1) = (List.range m).reverse ∧ J xs W') ∨ (∃ pre, True ∧ Jx pre W')) := by
  have HE := Lib.hid hE
  have HY := Lib.hid hY
  have HB := Lib.hid hB
  clear hE hY
  refine callsIn_of_wp (F := Fence.wide) Try.func79 rfl trivial ?_ rfl
  simp only [Try.ntmps79, List.size_toArray, List.length_cons, List.length_nil, Nat.reduceAdd, Nat.reduceSub, Array.replicate_succ, Array.replicate_zero, List.push_toArray, List.append_toArray, List.nil_append, List.cons_append]
  gi_wp2
  gi_loopw [3] (fun i wr => ∃ (t : Nat) (iv : Int) (pre : List (IdxE m)), t ≤ m ∧ i = .int .i64 iv ∧ iv = (t : Int) - 1 ∧ Hid (pre.map (·.1) = ((List.range m).drop t).reverse) ∧ Hid (J pre wr) ∧ Hid (KpE Bs ea W wr)) (fun i _ => (intOf i + 1).toNat)
  case atStart => exact ⟨m, (m : Int) - 1, [], by omega, rfl, rfl, Lib.hid (by simp), Lib.hid h0, Lib.hid (KpE.refl _ _ _)⟩
  case round =>
    obtain ⟨t, iv, pre, ht, rfl, hiv, hP, hJ, hK⟩ := hrel
    by_cases h1 : t = 0
    · subst h1
      have hlt : ¬ (0 : Int) ≤ iv := by omega
      have HXS := Lib.hid (show pre.map (·.1) = (List.range m).reverse from by have := hP.out; simpa using this)
      clear hiv hB
      gi_wp2
      go_end0
      exact ⟨⟨_, rfl⟩, .inl ⟨pre, HXS.out, hJ.out⟩⟩
    · obtain ⟨j, rfl⟩ : ∃ j, t = j + 1 := ⟨t - 1, by omega⟩
      obtain rfl : iv = (j : Int) := by omega
      have hlen : pre.length < m := by
        have := congrArg List.length hP.out
        simp at this; omega
      obtain ⟨fn, tmps, assign, body, hy, hR⟩ := HY.out pre ⟨j, by omega⟩ wr hJ.out hlen
      obtain ⟨b, o, hea, hc⟩ := HE.out.at (by omega)
      obtain ⟨y1, y2⟩ := hc j (by omega)
      have x1 := (World.cell?_of_block (hK.out b (.inr ⟨o, hea⟩)) (a := ⟨b, o + j * 2, none⟩)).trans y1
      have x2 := (World.cell?_of_block (hK.out b (.inr ⟨o, hea⟩)) (a := ⟨b, o + j * 2 + 1, none⟩)).trans y2
      have x0 := (World.cell?_of_block (hK.out Bs (.inl rfl)) (a := ⟨Bs, 0, none⟩)).trans HB.out
      dsimp only [encE] at hy
      obtain ⟨ed, hed⟩ : ∃ t, es.getD j ed0 = t := ⟨_, rfl⟩
      rw [hed] at x1 x2 hy
      have HEA := Lib.hid hea
      rw [hea] at x0
      have n1 : (0 : Int) ≤ (j : Int) := by omega
      have n2 : (j : Int) < (m : Int) := by omega
      have HRR := Lib.hid hR
      clear hc y1 y2 hed hB h1 hiv hea hR
      gi_wp2
      refine HRR.out.mono ?_
      rintro e W3 (⟨rfl, hJ3, hk3⟩ | ⟨rfl, hJx3⟩)
      · have HJ3 := Lib.hid hJ3
        have HK3 := Lib.hid (hK.out.trans hk3)
        have HP3 := Lib.hid (show (pre ++ [(⟨j, by omega⟩ : IdxE m)]).map (·.1) = ((List.range m).drop j).reverse from by
          rw [List.map_append, hP.out, drop_one m j (by omega)]; rfl)
        clear hJ3 hk3
        gi_wp2
        go_roundw
        case rel => exact ⟨j, (j : Int) - 1, _, by omega, by go_num, rfl, HP3, HJ3, HK3⟩
        case measure => simp [intOf] <;> omega
      · gi_wp2
        refine bodyPost_ret (results_none rfl _ _ _) rfl ?_
        exact ⟨⟨_, rfl⟩, .inr ⟨_, trivial, hJx3⟩⟩
/-- slices.Backward(s): the slice is boxed; the function captures the box -/
theorem back_any (a : Option Addr) (len cap : Nat) (w : World) :
    Calls Try.prog 58 #[.slice a len cap] w fun e w' => e = .returned (.func (.func 79) #[] #[.pointer (some ⟨w.heap.size, 0, none⟩)]) ∧ w' = w.alloc (.cells #[.slice a len cap] 86) := by
  go_enter Try.func58, Try.ntmps58
  go_wp2
  go_ret
  exact ⟨rfl, rfl⟩
theorem back_stops (n Bs m cap : Nat) (hn : 1 ≤ n) (ea : Option Addr) (es : List EdP) (hm : m ≤ 100000) (w : World) (hB : w.cell? ⟨Bs, 0, none⟩ = some (.slice ea m cap)) (hE : HoldsEd w ea m es) :
    SeqStopsK Fence.wide n Try.prog 79 #[.pointer (some ⟨Bs, 0, none⟩)] (encE es m) (KpE Bs ea) (fun xs => xs.map (·.1) = (List.range m).reverse) (fun _ => True) m w := fun l J Jx W hW _ _ hY h0 =>
  back1_in l Bs m cap n ea es hn hm J Jx hY W ((hW.cell (p := ⟨Bs, 0, none⟩) (lt_of_cell hB)).trans hB) (hE.below hW) h0
end Go.Proofs.Ytolggcdlpiedmaa
/- walk: what matches has in memory -/
namespace Go.Proofs.Ytolggcdlpiedmaa
open Go.RowKit
set_option linter.unusedVariables false
set_option maxRecDepth 20000
theorem row_kept {w w' : World} {row : Option Nat} {base : Nat} {e : TypeId} {size : Nat} {v : Value} {n : Nat} {xs : List Value} (h : w.ownsRow base e size v n xs) (hg : w.grownBy w' row) (hr : ∀ r, row = some r → ∀ cur fr, w.heap[r]? ≠ some (.cells cur e fr)) : w'.ownsRow base e size v n xs := by
  rcases h.2 with ⟨rfl, _⟩ | ⟨g, cap, cur, rfl, _, hgb, _⟩
  · exact h.kept hg (.inl rfl)
  · exact h.kept hg (.inr (fun e' => hr g e'.symm _ _ hgb))
theorem boxed_kept {w w' : World} {row : Option Nat} {bx : Nat} {t : TypeId} {v : Value} (h : Boxed w bx t v) (hg : w.grownBy w' row) (hr : ∀ r, row = some r → ∀ cur fr, w.heap[r]? ≠ some (.cells cur t fr)) : Boxed w' bx t v :=
  h.kept hg (fun e => hr bx e.symm _ _ h)
/-- the block of a row holds cells of the row's type -/
theorem row_block {w : World} {base : Nat} {e : TypeId} {size : Nat} {v : Value} {n : Nat} {xs : List Value} (h : w.ownsRow base e size v n xs) {r : Nat} (hr : v.ownBlock = some r) : base ≤ r ∧ ∃ cur, w.heap[r]? = some (.cells cur e (0, 0)) := by
  rcases h.2 with ⟨rfl, _⟩ | ⟨g, cap, cur, rfl, hb, hgb, _⟩
  · cases hr
  · injection hr with hr; subst hr; exact ⟨hb, cur, hgb⟩
theorem grown_below {w w' : World} (hb : Below w.heap.size w w') : w.grownBy w' none := ⟨hb.os, hb.tape, hb.output, hb.size, fun k hk _ => hb.block k hk⟩
def smV : List SM → List Value
  | [] => []
  | e :: K => .int .i64 (e.node : Int) :: .string e.pre :: .slice e.a e.S.length e.c :: smV K
theorem smV_app : ∀ K M : List SM, smV (K ++ M) = smV K ++ smV M
  | [], M => rfl
  | e :: K, M => by simp [smV, smV_app K M]
theorem smV_len : ∀ K : List SM, (smV K).length = K.length * 3
  | [] => rfl
  | e :: K => by simp [smV, smV_len K]; omega
/-- k, the runes, the states -/
structure WR (B : Nat) (w0 : World) (p5 p7 : Nat) (k : Int) (q : List Int) (qa : Option Addr) (qn qc : Nat) (T : List SM) (w : World) : Prop where
  b : Below B w0 w
  bl : B ≤ w.heap.size
  c5 : Boxed w p5 3 (.int .i64 k)
  c7 : Boxed w p7 83 (.slice qa qn qc)
  qr : w.ownsRow B 21 1 (.slice qa qn qc) qn (runesV q)
  h : ∀ e ∈ T, w.ownsRow B 119 2 (.slice e.a e.S.length e.c) e.S.length (posV e.S)
theorem WR.kept {B : Nat} {w0 w w' : World} {p5 p7 : Nat} {k : Int} {q : List Int} {qa : Option Addr} {qn qc : Nat} {T : List SM} {row : Option Nat} (h : WR B w0 p5 p7 k q qa qn qc T w) (hg : w.grownBy w' row)
    (hr : ∀ r, row = some r → B ≤ r ∧ ∀ cur e fr, w.heap[r]? = some (.cells cur e fr) → ¬ (e = 3 ∨ e = 83 ∨ e = 21 ∨ e = 119)) : WR B w0 p5 p7 k q qa qn qc T w' :=
  ⟨h.b.grown hg h.bl (fun r e => (hr r e).1), Nat.le_trans h.bl hg.size,
    boxed_kept h.c5 hg (fun r e cur fr hc => (hr r e).2 _ _ _ hc (.inl rfl)), boxed_kept h.c7 hg (fun r e cur fr hc => (hr r e).2 _ _ _ hc (.inr (.inl rfl))),
    row_kept h.qr hg (fun r e cur fr hc => (hr r e).2 _ _ _ hc (.inr (.inr (.inl rfl)))), fun e he => row_kept (h.h e he) hg (fun r e' cur fr hc => (hr r e').2 _ _ _ hc (.inr (.inr (.inr rfl))))⟩
theorem WR.more {B : Nat} {w0 w w' : World} {p5 p7 : Nat} {k : Int} {q : List Int} {qa : Option Addr} {qn qc : Nat} {T : List SM} (h : WR B w0 p5 p7 k q qa qn qc T w) (hb : Below w.heap.size w w') : WR B w0 p5 p7 k q qa qn qc T w' :=
  h.kept (grown_below hb) (fun r e => by cases e)
theorem WR.some_ {B : Nat} {w0 w : World} {p5 p7 : Nat} {k : Int} {q : List Int} {qa : Option Addr} {qn qc : Nat} {T U : List SM} (h : WR B w0 p5 p7 k q qa qn qc T w) (hU : ∀ e ∈ U, e ∈ T) : WR B w0 p5 p7 k q qa qn qc U w :=
  ⟨h.b, h.bl, h.c5, h.c7, h.qr, fun e he => h.h e (hU e he)⟩
/-- the stack, its box, and what is told so far -/
structure WQ (B : Nat) (w0 : World) (p5 p7 bx : Nat) (k : Int) (q : List Int) (qa : Option Addr) (qn qc : Nat) (oa : Option Addr) (oc : Nat) (out : List KV) (sa : Option Addr) (sc : Nat) (K T : List SM) (w : World) : Prop where
  r : WR B w0 p5 p7 k q qa qn qc (K ++ T) w
  o : w.ownsRow B 24 2 (.slice oa out.length oc) out.length (keysV out)
  s : w.ownsRow B 98 3 (.slice sa K.length sc) K.length (smV K)
  box : Boxed w bx 99 (.slice sa K.length sc)
  bxB : B ≤ bx
section
variable {B : Nat} {w0 w w' : World} {p5 p7 bx : Nat} {k : Int} {q : List Int} {qa : Option Addr} {qn qc : Nat} {oa : Option Addr} {oc : Nat} {out : List KV} {sa : Option Addr} {sc : Nat} {K T : List SM}
theorem WQ.kept {row : Option Nat} (h : WQ B w0 p5 p7 bx k q qa qn qc oa oc out sa sc K T w) (hg : w.grownBy w' row)
    (hr : ∀ r, row = some r → B ≤ r ∧ ∀ cur e fr, w.heap[r]? = some (.cells cur e fr) → ¬ (e = 3 ∨ e = 83 ∨ e = 21 ∨ e = 119 ∨ e = 24 ∨ e = 98 ∨ e = 99)) : WQ B w0 p5 p7 bx k q qa qn qc oa oc out sa sc K T w' :=
  ⟨h.r.kept hg (fun r e => ⟨(hr r e).1, fun cur e' fr hc hn => (hr r e).2 _ _ _ hc (by rcases hn with h | h | h | h <;> simp [h])⟩),
    row_kept h.o hg (fun r e cur fr hc => (hr r e).2 _ _ _ hc (by simp)), row_kept h.s hg (fun r e cur fr hc => (hr r e).2 _ _ _ hc (by simp)),
    boxed_kept h.box hg (fun r e cur fr hc => (hr r e).2 _ _ _ hc (by simp)), h.bxB⟩
theorem WQ.more (h : WQ B w0 p5 p7 bx k q qa qn qc oa oc out sa sc K T w) (hb : Below w.heap.size w w') : WQ B w0 p5 p7 bx k q qa qn qc oa oc out sa sc K T w' :=
  h.kept (grown_below hb) (fun r e => by cases e)
/-- a block that is no cells turns -/
theorem WQ.book {row : Option Nat} (h : WQ B w0 p5 p7 bx k q qa qn qc oa oc out sa sc K T w) (hg : w.grownBy w' row) (hr : ∀ r, row = some r → B ≤ r ∧ ∃ o : Obj, w.heap[r]? = some o ∧ o.isCells = false) : WQ B w0 p5 p7 bx k q qa qn qc oa oc out sa sc K T w' :=
  h.kept hg (fun r e => ⟨(hr r e).1, fun cur e' fr hc => by
    obtain ⟨o, ho, hn⟩ := (hr r e).2
    rw [hc] at ho; cases ho; cases hn⟩)
/-- a step is pushed -/
theorem WQ.push {g cap : Nat} {o : Obj} {w6 : World} (e : SM) (h : WQ B w0 p5 p7 bx k q qa qn qc oa oc out sa sc K T w) (he : w.ownsRow B 119 2 (.slice e.a e.S.length e.c) e.S.length (posV e.S))
    (hown : w6.ownsRow B 98 3 (.slice (some ⟨g, 0, none⟩) (K.length + 1) cap) (K.length + 1) (smV K ++ [.int .i64 (e.node : Int), .string e.pre, .slice e.a e.S.length e.c]))
    (hg : (w.alloc o).grownBy w6 (Value.slice sa K.length sc).ownBlock) :
    Boxed w6 bx 99 (.slice sa K.length sc) ∧ WQ B w0 p5 p7 bx k q qa qn qc oa oc out (some ⟨g, 0, none⟩) cap (K ++ [e]) T (w6.setCell ⟨bx, 0, none⟩ (.slice (some ⟨g, 0, none⟩) (K.length + 1) cap)) := by
  have hA : Below w.heap.size w (w.alloc o) := below_one w o
  have h1 := h.more hA
  have hr : ∀ r, (Value.slice sa K.length sc).ownBlock = some r → B ≤ r ∧ ∃ cur, (w.alloc o).heap[r]? = some (.cells cur 98 (0, 0)) := fun r e => row_block h1.s e
  have hb6 : Boxed w6 bx 99 (.slice sa K.length sc) := boxed_kept h1.box hg (fun r e cur fr hc => by
    obtain ⟨_, cur', hc'⟩ := hr r e
    rw [hc'] at hc; cases hc)
  have hr6 := h1.r.kept hg (fun r e => ⟨(hr r e).1, fun cur e' fr hc hn => by
    obtain ⟨_, cur', hc'⟩ := hr r e
    rw [hc'] at hc; cases hc
    revert hn; decide⟩)
  have ho6 := row_kept h1.o hg (fun r e cur fr hc => by
    obtain ⟨_, cur', hc'⟩ := hr r e
    rw [hc'] at hc; cases hc)
  have he6 := row_kept (he.alloc o) hg (fun r e cur fr hc => by
    obtain ⟨_, cur', hc'⟩ := hr r e
    rw [hc'] at hc; cases hc)
  have hg2 := grownBy_setCell' w6 bx (.slice (some ⟨g, 0, none⟩) (K.length + 1) cap)
  have hbb : ∀ r, some bx = some r → w6.heap[r]? = some (.cells #[.slice sa K.length sc] 99 (0, 0)) := fun r e => by cases e; exact hb6
  have hl : (K ++ [e]).length = K.length + 1 := by simp
  refine ⟨hb6, ⟨?_, ?_, ?_, ?_, h.bxB⟩⟩
  · have h7 : WR B w0 p5 p7 k q qa qn qc ((K ++ T) ++ [e]) w6 := ⟨hr6.b, hr6.bl, hr6.c5, hr6.c7, hr6.qr, fun x hx => by
      rcases List.mem_append.1 hx with hx | hx
      · exact hr6.h x hx
      · simp only [List.mem_singleton] at hx; subst hx; exact he6⟩
    refine (h7.kept hg2 (fun r e => ⟨by cases e; exact h.bxB, fun cur e' fr hc hn => ?_⟩)).some_ (fun x hx => ?_)
    · rw [hbb r e] at hc; cases hc; revert hn; decide
    · simp only [List.mem_append, List.mem_singleton] at hx ⊢; rcases hx with (h | h) | h <;> simp [h]
  · exact row_kept ho6 hg2 (fun r e cur fr hc => by rw [hbb r e] at hc; cases hc)
  · rw [hl, smV_app]
    exact row_kept hown hg2 (fun r e cur fr hc => by rw [hbb r e] at hc; cases hc)
  · rw [hl]; exact hb6.set _
/-- an item is told -/
theorem WQ.tell {g cap : Nat} {o : Obj} {w6 : World} (x : KV) (h : WQ B w0 p5 p7 bx k q qa qn qc oa oc out sa sc K T w)
    (hown : w6.ownsRow B 24 2 (.slice (some ⟨g, 0, none⟩) (out.length + 1) cap) (out.length + 1) (keysV out ++ [.int .i64 x.1, .string x.2]))
    (hg : (w.alloc o).grownBy w6 (Value.slice oa out.length oc).ownBlock) :
    WQ B w0 p5 p7 bx k q qa qn qc (some ⟨g, 0, none⟩) cap (out ++ [x]) sa sc K T w6 := by
  have h1 := h.more (below_one w o)
  have hr : ∀ r, (Value.slice oa out.length oc).ownBlock = some r → B ≤ r ∧ ∃ cur, (w.alloc o).heap[r]? = some (.cells cur 24 (0, 0)) := fun r e => row_block h1.o e
  have hl : (out ++ [x]).length = out.length + 1 := by simp
  refine ⟨h1.r.kept hg (fun r e => ⟨(hr r e).1, fun cur e' fr hc hn => ?_⟩), ?_, row_kept h1.s hg (fun r e cur fr hc => ?_), boxed_kept h1.box hg (fun r e cur fr hc => ?_), h.bxB⟩
  · obtain ⟨_, cur', hc'⟩ := hr r e
    rw [hc'] at hc; cases hc
    revert hn; decide
  · rw [hl, keysV_snoc]; exact hown
  · obtain ⟨_, cur', hc'⟩ := hr r e
    rw [hc'] at hc; cases hc
  · obtain ⟨_, cur', hc'⟩ := hr r e
    rw [hc'] at hc; cases hc
/-- the topmost step is taken -/
theorem WQ.pop {e : SM} (h : WQ B w0 p5 p7 bx k q qa qn qc oa oc out sa sc (K ++ [e]) T w) : WQ B w0 p5 p7 bx k q qa qn qc oa oc out sa sc K [e] (w.setCell ⟨bx, 0, none⟩ (.slice sa K.length sc)) := by
  have hg := grownBy_setCell' w bx (.slice sa K.length sc)
  have hbb : ∀ r, some bx = some r → w.heap[r]? = some (.cells #[.slice sa (K ++ [e]).length sc] 99 (0, 0)) := fun r e => by cases e; exact h.box
  have hs : w.ownsRow B 98 3 (.slice sa K.length sc) K.length (smV K) := by
    obtain ⟨h1, h2⟩ := h.s
    rw [smV_app, List.length_append] at h1 h2
    simp only [List.length_cons, List.length_nil] at h1 h2
    refine ⟨smV_len K, ?_⟩
    rcases h2 with ⟨h3, h4⟩ | ⟨g, c2, cur, h3, h4, h5, h6, h7, h8, h9⟩
    · omega
    · injection h3 with h3 h3b h3c
      subst h3 h3c
      refine .inr ⟨g, sc, cur, rfl, h4, h5, by omega, h7, h8, ?_⟩
      have h10 := congrArg (List.take (K.length * 3)) h9
      rw [List.take_take, List.take_append_of_le_length (by rw [smV_len]; omega), List.take_of_length_le (l := smV K) (by rw [smV_len]; omega)] at h10
      rwa [show min (K.length * 3) ((K.length + (0 + 1)) * 3) = K.length * 3 by omega] at h10
  refine ⟨(h.r.kept hg (fun r e => ⟨by cases e; exact h.bxB, fun cur e' fr hc hn => ?_⟩)).some_ (fun x hx => ?_), row_kept h.o hg (fun r e cur fr hc => ?_), row_kept hs hg (fun r e cur fr hc => ?_), h.box.set _, h.bxB⟩
  · rw [hbb r e] at hc; cases hc; revert hn; decide
  · simp only [List.mem_append, List.mem_singleton] at hx ⊢; rcases hx with h | h <;> simp [h]
  · rw [hbb r e] at hc; cases hc
  · rw [hbb r e] at hc; cases hc
/-- the topmost step's cells -/
theorem WQ.top {e : SM} (h : WQ B w0 p5 p7 bx k q qa qn qc oa oc out sa sc (K ++ [e]) T w) : ∃ s, sa = some ⟨s, 0, none⟩ ∧ s < w.heap.size ∧ w.cell? ⟨s, K.length * 3, none⟩ = some (.int .i64 (e.node : Int)) ∧ w.cell? ⟨s, K.length * 3 + 1, none⟩ = some (.string e.pre) ∧ w.cell? ⟨s, K.length * 3 + 2, none⟩ = some (.slice e.a e.S.length e.c) := by
  obtain ⟨h1, h2⟩ := h.s
  rw [smV_app, List.length_append] at h1 h2
  simp only [List.length_cons, List.length_nil] at h1 h2
  rcases h2 with ⟨h3, h4⟩ | ⟨g, c2, cur, h3, h4, h5, h6, h7, h8, h9⟩
  · omega
  · injection h3 with h3 h3b h3c
    subst h3 h3c
    have hc : ∀ i u, (smV K ++ smV [e])[i]? = some u → w.cell? ⟨g, i, none⟩ = some u := fun i u hi => by
      have hlt := (List.getElem?_eq_some_iff.1 hi).1
      rw [← h9, List.getElem?_take_of_lt (by rw [List.length_append, smV_len, smV_len] at hlt; simp at hlt; omega)] at hi
      simp only [World.cell?, h5]
      simpa using hi
    refine ⟨g, rfl, (Array.getElem?_eq_some_iff.1 h5).1, hc _ _ ?_, hc _ _ ?_, hc _ _ ?_⟩
    all_goals (rw [List.getElem?_append_right (by rw [smV_len]; omega), smV_len])
    · rw [Nat.sub_self]; rfl
    · rw [Nat.add_sub_cancel_left]; rfl
    · rw [Nat.add_sub_cancel_left]; rfl
end
end Go.Proofs.Ytolggcdlpiedmaa
/- walk: matches -/
namespace Go.Proofs.Ytolggcdlpiedmaa
open Go.RowKit
set_option linter.unusedVariables false
set_option maxRecDepth 20000
/-- the marks of the loops that have been gone through -/
def markD (D : Nat) : Deferred := { target := .collected D, args := #[] }
def MarkAt (B : Nat) (Ds : List Nat) (w : World) : Prop := Ds.Nodup ∧ ∀ D ∈ Ds, B ≤ D ∧ w.heap[D]? = some (.deferred (some []))
theorem MarkAt.lt {B : Nat} {Ds : List Nat} {w : World} (h : MarkAt B Ds w) {D : Nat} (hD : D ∈ Ds) : D < w.heap.size := (Array.getElem?_eq_some_iff.1 (h.2 D hD).2).1
theorem MarkAt.kept {B : Nat} {Ds : List Nat} {w w' : World} {row : Option Nat} (h : MarkAt B Ds w) (hg : w.grownBy w' row) (hr : ∀ r, row = some r → r ∉ Ds) : MarkAt B Ds w' :=
  ⟨h.1, fun D hD => ⟨(h.2 D hD).1, (hg.block D (h.lt hD) (fun e => hr D e.symm hD)).trans (h.2 D hD).2⟩⟩
theorem leaves_marks {F : Fence} {n : Nat} {P : Program} {fn : Func} {tmps : Array Value} {R : Ending → World → Prop} {B : Nat} : ∀ (Ds : List Nat) (w : World), MarkAt B Ds w →
    (∀ w', Turn (fun k => k ∈ Ds) w w' → (∀ k, k ∈ Ds → B ≤ k ∧ ∃ o : Obj, w.heap[k]? = some o ∧ o.isCells = false) → ∃ v, (results fn tmps).run P w' = .ok v w' ∧ R (.returned v) w') → LeavesInM F n P fn tmps R (Ds.map markD) .returning w
  | [], w, _, h => h w (Turn.refl _ _) (fun k hk => by cases hk)
  | D :: Ds, w, hm, h => by
    have hD := hm.2 D (by simp)
    have hlt := hm.lt (D := D) (by simp)
    have hn := List.nodup_cons.1 hm.1
    refine ⟨by simp, .inl ⟨D, _, rfl, run_takeDeferred hD.2, ?_⟩⟩
    have hm' : MarkAt B Ds (w.putObj D (.deferred none)) := MarkAt.kept ⟨hn.2, fun E hE => hm.2 E (by simp [hE])⟩ (grownBy_putObj' w D _) (fun r e => by cases e; exact hn.1)
    refine leaves_marks Ds _ hm' (fun w' t hk => h w' ?_ (fun k hk' => ⟨(hm.2 k hk').1, _, (hm.2 k hk').2, rfl⟩))
    have hg := grownBy_putObj' w D (.deferred none)
    exact ⟨t.os.trans hg.os, t.tape.trans hg.tape, t.output.trans hg.output, Nat.le_trans hg.size t.size, fun k hk1 hk2 => (t.block k (Nat.lt_of_lt_of_le hk1 hg.size) (fun e => hk2 (by simp [e]))).trans (hg.block k hk1 (fun e => hk2 (by cases e; simp)))⟩
theorem matches_no (g : Option Nat) (s : Tx) (k : Int) (w : World) (hs : s.size ≤ 9223372036854775807) (h : g = none ∨ ¬ (0 ≤ lenS s ∧ lenS s ≤ 16) ∨ k < 0 ∨ 4 < k) :
    Calls Try.prog 36 #[.pointer (g.map (fun g => ⟨g, 0, none⟩)), .string s, .int .i64 k] w fun e w' => e = .returned (.slice none 0 0) ∧ Below w.heap.size w w' := by
  have CA := Lib.hid (fun c w hc => asked_lit s c w hs hc)
  have B0 := Lib.hid (below_one w (.cells #[.int .i64 k] 3))
  cases g with
  | none =>
    go_enter Try.func36, Try.ntmps36
    go_wp2_with fail
    go_ret
    exact ⟨rfl, B0.out⟩
  | some g =>
    by_cases ha : 0 ≤ lenS s ∧ lenS s ≤ 16
    · have CA := Lib.hid (fun w => CA.out true w (decide_eq_true ha))
      have hk : k < 0 ∨ 4 < k := by
        rcases h with h | h | h | h
        · cases h
        · exact absurd ha h
        · exact .inl h
        · exact .inr h
      clear h ha
      go_enter Try.func36, Try.ntmps36
      have X0 := Lib.hid (Boxed.new w 3 (.int .i64 k))
      by_cases hk0 : k < 0
      · go_wp2_with fail
        refine (CA.out _).mono ?_
        rintro e w1 ⟨rfl, hb1⟩
        have B1 := Lib.hid (B0.out.trans (hb1.mono B0.out.size))
        have c1 := (boxed_kept X0.out (grown_below hb1) (fun r e => by cases e)).cell
        clear hb1
        go_wp2_with fail
        go_ret
        exact ⟨rfl, B1.out⟩
      · have hk4 : 4 < k := by omega
        clear hk
        go_wp2_with fail
        refine (CA.out _).mono ?_
        rintro e w1 ⟨rfl, hb1⟩
        have B1 := Lib.hid (B0.out.trans (hb1.mono B0.out.size))
        have c1 := (boxed_kept X0.out (grown_below hb1) (fun r e => by cases e)).cell
        clear hb1
        go_wp2_with fail
        go_ret
        exact ⟨rfl, B1.out⟩
    · have CA := Lib.hid (fun w => CA.out false w (decide_eq_false ha))
      clear h ha
      go_enter Try.func36, Try.ntmps36
      go_wp2_with fail
      refine (CA.out _).mono ?_
      rintro e w1 ⟨rfl, hb1⟩
      have B1 := Lib.hid (B0.out.trans (hb1.mono B0.out.size))
      clear hb1
      go_wp2_with fail
      go_ret
      exact ⟨rfl, B1.out⟩
end Go.Proofs.Ytolggcdlpiedmaa
