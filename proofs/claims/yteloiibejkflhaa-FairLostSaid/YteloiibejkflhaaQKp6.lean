/- contract of part.Good -/
import Derived.Test.YteloiibejkflhaaQKp5
import Derived.Deep.RegionHeld3
namespace Go.Proofs.Yteloiibejkflhaa
open Go.RowKit
set_option linter.unusedVariables false
set_option maxRecDepth 20000
def SortedK (l : List KV) : Prop := l.Pairwise fun a b => ordK a b < 0
instance (l : List KV) : Decidable (SortedK l) := by unfold SortedK; infer_instance
def adjK : List KV → Prop
  | x :: y :: l => ordK x y < 0 ∧ adjK (y :: l)
  | _ => True
theorem adjK_sorted : ∀ {l : List KV}, adjK l ↔ SortedK l
  | [] => by simp [adjK, SortedK]
  | [x] => by simp [adjK, SortedK]
  | x :: y :: l => by
    have ih := adjK_sorted (l := y :: l)
    constructor
    · rintro ⟨h1, h2⟩
      have h3 := ih.1 h2
      refine List.pairwise_cons.2 ⟨fun z hz => ?_, h3⟩
      rcases List.mem_cons.1 hz with e | e
      · rw [e]; exact h1
      · exact ordK_trans h1 ((List.pairwise_cons.1 h3).1 z e)
    · intro h
      obtain ⟨h1, h2⟩ := List.pairwise_cons.1 h
      exact ⟨h1 y (List.mem_cons_self ..), ih.2 h2⟩
theorem adjK_iff (l : List KV) : SortedK l ↔ ∀ i, i + 1 < l.length → ordK (l.getD i k0) (l.getD (i + 1) k0) < 0 := by
  rw [← adjK_sorted]
  induction l with
  | nil => simp [adjK]
  | cons x l ih =>
    cases l with
    | nil => simp [adjK]
    | cons y l =>
      constructor
      · rintro ⟨h1, h2⟩ i hi
        cases i with
        | zero => simpa using h1
        | succ i =>
          have := (ih.1 h2) i (by simpa using hi)
          simpa using this
      · intro h
        refine ⟨by simpa using h 0 (by simp), ih.2 fun i hi => ?_⟩
        have := h (i + 1) (by simpa using hi)
        simpa using this
def goodK (l : List KV) : Int := if 5 < l.length then 3 else if ∃ k ∈ l, ¬ mayK k then 2 else if SortedK l then 0 else 7
theorem goodK_zero {l : List KV} (h : goodK l = 0) : l.length ≤ 5 ∧ (∀ k ∈ l, mayK k) ∧ SortedK l := by
  unfold goodK at h
  split at h
  · omega
  · split at h
    · omega
    · split at h
      · rename_i h1 h2 h3
        exact ⟨by omega, fun t ht => Classical.byContradiction fun k => h2 ⟨t, ht, k⟩, h3⟩
      · omega
theorem goodK_of {l : List KV} (h : l.length ≤ 5) (h1 : ∀ k ∈ l, mayK k) (h2 : SortedK l) : goodK l = 0 := by
  unfold goodK; rw [if_neg (by omega), if_neg (fun ⟨t, ht, k⟩ => k (h1 t ht)), if_pos h2]
theorem goodK_long {l : List KV} (h : 5 < l.length) : goodK l = 3 := by unfold goodK; rw [if_pos h]
theorem goodK_bad {l : List KV} (h : l.length ≤ 5) (t : KV) (ht : t ∈ l) (hw : ¬ mayK t) : goodK l = 2 := by
  unfold goodK; rw [if_neg (by omega), if_pos ⟨t, ht, hw⟩]
theorem goodK_sort {l : List KV} (h : l.length ≤ 5) (hw : ∀ t ∈ l, mayK t) (hs : ¬ SortedK l) : goodK l = 7 := by
  unfold goodK; rw [if_neg (by omega), if_neg (fun ⟨t, ht, k⟩ => k (hw t ht)), if_neg hs]
theorem may_lit (k : KV) (c : Bool) (hk : KeyOk k) (hc : decide (mayK k) = c) (w : World) :
    Calls Try.prog 28 #[keyV k] w fun e w' => e = .returned (.bool c) ∧ Below w.heap.size w w' := by subst hc; exact may_any k hk w
/-- two keys of a row -/
def Two4 (w0 : World) (b p q : Nat) (x y : KV) (w : World) : Prop := Below w0.heap.size w0 w ∧ w.cell? ⟨b, p, none⟩ = some (.int .i64 x.1) ∧ w.cell? ⟨b, p + 1, none⟩ = some (.string x.2) ∧ w.cell? ⟨b, q, none⟩ = some (.int .i64 y.1) ∧ w.cell? ⟨b, q + 1, none⟩ = some (.string y.2)
theorem two4_carry {w0 w w' : World} {b p q : Nat} {x y : KV} (h : Two4 w0 b p q x y w) (hb : Below w.heap.size w w') : Two4 w0 b p q x y w' := by
  have hlt := lt_of_cell h.2.1
  refine ⟨h.1.trans (hb.mono h.1.size), ?_, ?_, ?_, ?_⟩
  · rw [hb.cell (p := ⟨b, p, none⟩) hlt]; exact h.2.1
  · rw [hb.cell (p := ⟨b, p + 1, none⟩) hlt]; exact h.2.2.1
  · rw [hb.cell (p := ⟨b, q, none⟩) hlt]; exact h.2.2.2.1
  · rw [hb.cell (p := ⟨b, q + 1, none⟩) hlt]; exact h.2.2.2.2
set_option maxHeartbeats 3200000 in
theorem pgood_any (a : Option Addr) (n cap : Nat) (ks : List KV) (w : World) (hh : HoldsK w a n ks) (hn : n ≤ 9223372036854775807) (hk : ∀ k ∈ ks, KeyOk k) :
    Calls Try.prog 18 #[.slice a n cap] w fun e w' => e = .returned (.int .i64 (goodK ks)) ∧ Below w.heap.size w w' := by
  have hl := hh.len
  by_cases h5 : n ≤ 5
  case neg =>
    rw [goodK_long (by omega)]
    go_enter Try.func18, Try.ntmps18
    go_wp2_with fail
    go_ret
    exact ⟨rfl, Below.refl _ _⟩
  go_enter Try.func18, Try.ntmps18
  go_wp2_with fail
  go_loopw [11] (fun iv wr => ∃ j : Nat, j ≤ n ∧ iv = .int .i64 j ∧ Hid (∀ t ∈ ks.take j, mayK t) ∧ Hid (Below w.heap.size w wr)) (fun iv _ => n - (intOf iv).toNat)
  case atStart => exact ⟨0, by omega, rfl, Lib.hid (by simp), Lib.hid (Below.refl _ _)⟩
  case round =>
    obtain ⟨j, hj, rfl, hS, hB⟩ := hrel
    by_cases hlt : j < n
    · obtain ⟨b, o, rfl, hc⟩ := (hh.below hB.out).at (by omega)
      obtain ⟨e1, e2⟩ := hc j hlt
      have hmem := getD_memK ks j (by omega)
      have htk := take_succ_getD ks k0 j (by omega)
      obtain ⟨x, hx⟩ : ∃ x, ks.getD j k0 = x := ⟨_, rfl⟩
      rw [hx] at e1 e2 hmem htk
      have HX := Lib.hid (hk x hmem); have HM := Lib.hid hmem; have HT := Lib.hid htk
      clear hx hmem htk hc
      by_cases hw : mayK x
      · have HW := Lib.hid hw
        have C := Lib.hid (fun w => may_lit x true HX.out (decide_eq_true hw) w)
        unfold keyV at C
        clear hw
        go_wp2_with fail
        refine (C.out _).mono ?_
        rintro e w2 ⟨rfl, hb2⟩
        have B2 := Lib.hid (hB.out.trans (((below_one wr _).trans (hb2.mono (by simp))).mono hB.out.size))
        clear hb2
        go_wp2_with fail
        go_roundw
        case rel => exact ⟨j + 1, by omega, by go_num, Lib.hid (by rw [HT.out]; intro z hz; rcases List.mem_append.1 hz with hz | hz; exact hS.out z hz; simp at hz; rw [hz]; exact HW.out), B2⟩
        case measure => simp [intOf]; omega
      · have C := Lib.hid (fun w => may_lit x false HX.out (decide_eq_false hw) w)
        unfold keyV at C
        have HG := Lib.hid (goodK_bad (by omega) x HM.out hw)
        clear hw
        go_wp2_with fail
        refine (C.out _).mono ?_
        rintro e w2 ⟨rfl, hb2⟩
        have B2 := Lib.hid (hB.out.trans (((below_one wr _).trans (hb2.mono (by simp))).mono hB.out.size))
        clear hb2
        go_wp2_with fail
        go_ret
        exact ⟨ret_int HG.out.symm, B2.out⟩
    · have hjn : ks.take j = ks := List.take_of_length_le (by omega)
      have hwd := hS.out
      rw [hjn] at hwd
      have HW := Lib.hid hwd
      have hB1 := hB
      clear hjn hwd hS hB
      go_wp2_with fail
      go_loopw [5] (fun iv wr2 => ∃ i : Nat, 1 ≤ i ∧ i ≤ n + 1 ∧ iv = .int .i64 i ∧ Hid (∀ k, k + 1 < i → k + 1 < n → ordK (ks.getD k k0) (ks.getD (k + 1) k0) < 0) ∧ Hid (Below w.heap.size w wr2)) (fun iv _ => n + 1 - (intOf iv).toNat)
      case atStart => exact ⟨1, by omega, by omega, rfl, Lib.hid (fun k h1 => by omega), hB1⟩
      case round =>
        obtain ⟨i, hi1, hi2, rfl, hS, hB⟩ := hrel
        by_cases hlt2 : i < n
        · obtain ⟨b, o, rfl, hc⟩ := (hh.below hB.out).at (by omega)
          obtain ⟨q, hq⟩ : ∃ q, q = i - 1 := ⟨_, rfl⟩
          have hqi : q + 1 = i := by omega
          obtain ⟨e3, e4⟩ := hc i hlt2
          obtain ⟨e1, e2⟩ := hc q (by omega)
          obtain ⟨x, hx⟩ : ∃ x, ks.getD q k0 = x := ⟨_, rfl⟩
          obtain ⟨y, hy⟩ : ∃ y, ks.getD i k0 = y := ⟨_, rfl⟩
          rw [hx] at e1 e2; rw [hy] at e3 e4
          have HX := Lib.hid hx; have HY := Lib.hid hy; have HQ := Lib.hid hqi
          have T := Lib.hid (show Two4 wr b (o + q * 2) (o + i * 2) x y wr from ⟨Below.refl _ _, e1, e2, e3, e4⟩)
          have hr : IntKind.i64.wrap ((i : Int) - 1) = (q : Int) := by rw [IntWalk.i64_in _ (by omega)]; omega
          have g1 : (0 : Int) ≤ (q : Int) := by omega
          have g2 : (q : Int) < (n : Int) := by omega
          have g3 : (0 : Int) ≤ (i : Int) := by omega
          have g4 : (i : Int) < (n : Int) := by omega
          have bs := hB.out.size
          clear hx hy hc hq hqi e1 e2 e3 e4
          by_cases hvn : ordK x y < 0
          · have C := Lib.hid (fun w => pless_lit x y true (decide_eq_true hvn) w)
            unfold keyV at C
            have HV := Lib.hid hvn
            clear hvn
            go_upto_region 12 with fail
            go_region_held3 (fun w' => Below wr.heap.size wr w' ∧ w'.cell? ⟨b, o + q * 2, none⟩ = some (.int .i64 x.1) ∧ w'.cell? ⟨b, o + q * 2 + 1, none⟩ = some (.string x.2) ∧ w'.cell? ⟨b, o + i * 2, none⟩ = some (.int .i64 y.1) ∧ w'.cell? ⟨b, o + i * 2 + 1, none⟩ = some (.string y.2))
              (first | assumption | exact two4_carry T.out (below_drewN wr _) | exact two4_carry T.out (Below.refl _ _).drew | exact two4_carry (by assumption) (by assumption))
              (first | (go_at_call 29; refine (C.out _).mono ?_; rintro e w' ⟨rfl, hb⟩))
            rename_i T5
            obtain ⟨hb5, -⟩ := T5
            go_wp2_with fail
            go_roundw
            case rel =>
              refine ⟨i + 1, by omega, by omega, by go_num, Lib.hid (fun k h1 h2 => ?_), Lib.hid (hB.out.trans (hb5.mono bs))⟩
              by_cases hk2 : k = q
              · subst hk2; rw [HX.out, HQ.out, HY.out]; exact HV.out
              · exact hS.out k (by have := HQ.out; omega) h2
            case measure => simp [intOf]; omega
          · have C := Lib.hid (fun w => pless_lit x y false (decide_eq_false hvn) w)
            unfold keyV at C
            have hg := goodK_sort (by omega) HW.out (fun hs => hvn (by have := (adjK_iff ks).1 hs q (by have := HQ.out; omega); rw [HX.out, HQ.out, HY.out] at this; exact this))
            have HG := Lib.hid hg
            clear hg hvn
            go_upto_region 12 with fail
            go_region_held3 (fun w' => Below wr.heap.size wr w' ∧ w'.cell? ⟨b, o + q * 2, none⟩ = some (.int .i64 x.1) ∧ w'.cell? ⟨b, o + q * 2 + 1, none⟩ = some (.string x.2) ∧ w'.cell? ⟨b, o + i * 2, none⟩ = some (.int .i64 y.1) ∧ w'.cell? ⟨b, o + i * 2 + 1, none⟩ = some (.string y.2))
              (first | assumption | exact two4_carry T.out (below_drewN wr _) | exact two4_carry T.out (Below.refl _ _).drew | exact two4_carry (by assumption) (by assumption))
              (first | (go_at_call 29; refine (C.out _).mono ?_; rintro e w' ⟨rfl, hb⟩))
            rename_i T5
            obtain ⟨hb5, -⟩ := T5
            go_wp2_with fail
            go_ret
            exact ⟨ret_int HG.out.symm, hB.out.trans (hb5.mono bs)⟩
        · have hg := goodK_of (l := ks) (by omega) HW.out ((adjK_iff ks).2 fun k hk => hS.out k (by omega) (by omega))
          have HG := Lib.hid hg
          clear hg
          go_wp2_with fail
          go_ret
          exact ⟨ret_int HG.out.symm, hB.out⟩
theorem pgood_lit (a : Option Addr) (n cap : Nat) (ks : List KV) (v : Int) (w : World) (hh : HoldsK w a n ks) (hn : n ≤ 9223372036854775807) (hk : ∀ k ∈ ks, KeyOk k) (hv : goodK ks = v) :
    Calls Try.prog 18 #[.slice a n cap] w fun e w' => e = .returned (.int .i64 v) ∧ Below w.heap.size w w' := by subst hv; exact pgood_any a n cap ks w hh hn hk
end Go.Proofs.Yteloiibejkflhaa
