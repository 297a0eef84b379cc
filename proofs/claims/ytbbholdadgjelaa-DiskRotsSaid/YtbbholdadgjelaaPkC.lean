/- texts joined -/
import Derived.Test.YtbbholdadgjelaaPkB
import Derived.Deep.RegionHeld3
import Derived.Test.YtbbholdadgjelaaPkA
import Derived.WalkKit
import Derived.Test.YtbbholdadgjelaaChecked
import Derived.WalkLawsBesides
import Derived.Outline
import Derived.SliceStrings
import Derived.Deep.QuietTactic
import Derived.BigQuiet
import Derived.Deep.DeepCutAuto
import Derived.Deep.RegionWith
import Derived.Deep.RegionLaw
import Derived.Deep.AppendLies
import Derived.Laws.ResultCell
import Derived.Lib.AppendStr
import Derived.Lib.Strings
import Derived.Lib.ConvBytes
import Derived.Laws.BytesArg
import Derived.Lib.SlBytesRow
import Derived.Shelf.Strings.Builder1
import Derived.Shelf.Strings.BuilderK
import Derived.Shelf.Strings.BuilderRune
import Derived.Shelf.Utf8.AppendRune
import Derived.Lib.RuneBytes
import Derived.WalkSpells
/- contracts of part.Lens, Least, Slice -/
namespace Go.Proofs.Ytbbholdadgjelaa
open Go.RowKit
set_option linter.unusedVariables false
set_option maxRecDepth 20000
theorem not_empty {x : Tx} (h : x ≠ ByteArray.empty) : x.toList.isEmpty = false := by
  rw [List.isEmpty_eq_false_iff]
  intro h2
  exact h (toList_inj (h2.trans (by rw [ByteArray.toList_eq]; rfl)))
def loK (ks : List KV) (s : Nat) : Int := if 0 < s then (ks.getD (s - 1) k0).1 else 1
def hiK (ks : List KV) (s : Nat) : Int := if s < ks.length then (if (ks.getD s k0).2 = ByteArray.empty then (ks.getD s k0).1 - 1 else (ks.getD s k0).1) else 12
theorem lo_bd {ks : List KV} (hm : ∀ k ∈ ks, mayK k) {s : Nat} (hs : s ≤ ks.length) : 1 ≤ loK ks s ∧ loK ks s ≤ 12 := by
  unfold loK
  split
  · have := hm _ (getD_memK ks (s - 1) (by omega)); unfold mayK at this; exact ⟨this.1, this.2.1⟩
  · omega
theorem hi_bd {ks : List KV} (hm : ∀ k ∈ ks, mayK k) {s : Nat} (hs : s ≤ ks.length) : 0 ≤ hiK ks s ∧ hiK ks s ≤ 12 := by
  unfold hiK
  split
  · have := hm _ (getD_memK ks s (by omega)); unfold mayK at this
    split <;> omega
  · omega
def leastK (ks : List KV) (s : Nat) (n : Int) : Int := if hiK ks s < loK ks s then -1 else max (max (loK ks s - n) (n - hiK ks s)) 0
end Go.Proofs.Ytbbholdadgjelaa
/- contract of part.Good -/
namespace Go.Proofs.Ytbbholdadgjelaa
open Go.RowKit
set_option linter.unusedVariables false
set_option maxRecDepth 20000
def SortedK (l : List KV) : Prop := l.Pairwise fun a b => ordK a b < 0
instance (l : List KV) : Decidable (SortedK l) := by unfold SortedK; infer_instance
def adjK : List KV → Prop
  | x :: y :: l => ordK x y < 0 ∧ adjK (y :: l)
  | _ => True
theorem adjK_sorted : ∀ {l : List KV}, adjK l ↔ SortedK l
  | [] => by simp [adjK, SortedK]
  | [x] => by simp [adjK, SortedK]
  | x :: y :: l => by
    have ih := adjK_sorted (l := y :: l)
    constructor
    · rintro ⟨h1, h2⟩
      have h3 := ih.1 h2
      refine List.pairwise_cons.2 ⟨fun z hz => ?_, h3⟩
      rcases List.mem_cons.1 hz with e | e
      · rw [e]; exact h1
      · exact ordK_trans h1 ((List.pairwise_cons.1 h3).1 z e)
    · intro h
      obtain ⟨h1, h2⟩ := List.pairwise_cons.1 h
      exact ⟨h1 y (List.mem_cons_self ..), ih.2 h2⟩
theorem adjK_iff (l : List KV) : SortedK l ↔ ∀ i, i + 1 < l.length → ordK (l.getD i k0) (l.getD (i + 1) k0) < 0 := by
  rw [← adjK_sorted]
  induction l with
  | nil => simp [adjK]
  | cons x l ih =>
    cases l with
    | nil => simp [adjK]
    | cons y l =>
      constructor
      · rintro ⟨h1, h2⟩ i hi
        cases i with
        | zero => simpa using h1
        | succ i =>
          have := (ih.1 h2) i (by simpa using hi)
          simpa using this
      · intro h
        refine ⟨by simpa using h 0 (by simp), ih.2 fun i hi => ?_⟩
        have := h (i + 1) (by simpa using hi)
        simpa using this
def goodK (l : List KV) : Int := if 5 < l.length then 3 else if ∃ k ∈ l, ¬ mayK k then 2 else if SortedK l then 0 else 7
theorem goodK_zero {l : List KV} (h : goodK l = 0) : l.length ≤ 5 ∧ (∀ k ∈ l, mayK k) ∧ SortedK l := by
  unfold goodK at h
  split at h
  · omega
  · split at h
    · omega
    · split at h
      · rename_i h1 h2 h3
        exact ⟨by omega, fun t ht => Classical.byContradiction fun k => h2 ⟨t, ht, k⟩, h3⟩
      · omega
theorem goodK_of {l : List KV} (h : l.length ≤ 5) (h1 : ∀ k ∈ l, mayK k) (h2 : SortedK l) : goodK l = 0 := by
  unfold goodK; rw [if_neg (by omega), if_neg (fun ⟨t, ht, k⟩ => k (h1 t ht)), if_pos h2]
theorem goodK_long {l : List KV} (h : 5 < l.length) : goodK l = 3 := by unfold goodK; rw [if_pos h]
theorem goodK_bad {l : List KV} (h : l.length ≤ 5) (t : KV) (ht : t ∈ l) (hw : ¬ mayK t) : goodK l = 2 := by
  unfold goodK; rw [if_neg (by omega), if_pos ⟨t, ht, hw⟩]
theorem goodK_sort {l : List KV} (h : l.length ≤ 5) (hw : ∀ t ∈ l, mayK t) (hs : ¬ SortedK l) : goodK l = 7 := by
  unfold goodK; rw [if_neg (by omega), if_neg (fun ⟨t, ht, k⟩ => k (hw t ht)), if_neg hs]
theorem may_lit (k : KV) (c : Bool) (hk : KeyOk k) (hc : decide (mayK k) = c) (w : World) :
    Calls Try.prog 46 #[keyV k] w fun e w' => e = .returned (.bool c) ∧ Below w.heap.size w w' := by subst hc; exact may_any k hk w
/-- two keys of a row -/
def Two4 (w0 : World) (b p q : Nat) (x y : KV) (w : World) : Prop := Below w0.heap.size w0 w ∧ w.cell? ⟨b, p, none⟩ = some (.int .i64 x.1) ∧ w.cell? ⟨b, p + 1, none⟩ = some (.string x.2) ∧ w.cell? ⟨b, q, none⟩ = some (.int .i64 y.1) ∧ w.cell? ⟨b, q + 1, none⟩ = some (.string y.2)
theorem two4_carry {w0 w w' : World} {b p q : Nat} {x y : KV} (h : Two4 w0 b p q x y w) (hb : Below w.heap.size w w') : Two4 w0 b p q x y w' := by
  have hlt := lt_of_cell h.2.1
  refine ⟨h.1.trans (hb.mono h.1.size), ?_, ?_, ?_, ?_⟩
  · rw [hb.cell (p := ⟨b, p, none⟩) hlt]; exact h.2.1
  · rw [hb.cell (p := ⟨b, p + 1, none⟩) hlt]; exact h.2.2.1
  · rw [hb.cell (p := ⟨b, q, none⟩) hlt]; exact h.2.2.2.1
  · rw [hb.cell (p := ⟨b, q + 1, none⟩) hlt]; exact h.2.2.2.2
set_option maxHeartbeats 3200000 in
theorem pgood_any (a : Option Addr) (n cap : Nat) (ks : List KV) (w : World) (hh : HoldsK w a n ks) (hn : n ≤ 9223372036854775807) (hk : ∀ k ∈ ks, KeyOk k) :
    Calls Try.prog 26 #[.slice a n cap] w fun e w' => e = .returned (.int .i64 (goodK ks)) ∧ Below w.heap.size w w' := by
  have hl := hh.len
  by_cases h5 : n ≤ 5
  case neg =>
    rw [goodK_long (by omega)]
    go_enter Try.func26, Try.ntmps26
    go_wp2_with fail
    go_ret
    exact ⟨rfl, Below.refl _ _⟩
  go_enter Try.func26, Try.ntmps26
  go_wp2_with fail
  go_loopw [11] (fun iv wr => ∃ j : Nat, j ≤ n ∧ iv = .int .i64 j ∧ Hid (∀ t ∈ ks.take j, mayK t) ∧ Hid (Below w.heap.size w wr)) (fun iv _ => n - (intOf iv).toNat)
  case atStart => exact ⟨0, by omega, rfl, Lib.hid (by simp), Lib.hid (Below.refl _ _)⟩
  case round =>
    obtain ⟨j, hj, rfl, hS, hB⟩ := hrel
    by_cases hlt : j < n
    · obtain ⟨b, o, rfl, hc⟩ := (hh.below hB.out).at (by omega)
      obtain ⟨e1, e2⟩ := hc j hlt
      have hmem := getD_memK ks j (by omega)
      have htk := take_succ_getD ks k0 j (by omega)
      obtain ⟨x, hx⟩ : ∃ x, ks.getD j k0 = x := ⟨_, rfl⟩
      rw [hx] at e1 e2 hmem htk
      have HX := Lib.hid (hk x hmem); have HM := Lib.hid hmem; have HT := Lib.hid htk
      clear hx hmem htk hc
      by_cases hw : mayK x
      · have HW := Lib.hid hw
        have C := Lib.hid (fun w => may_lit x true HX.out (decide_eq_true hw) w)
        unfold keyV at C
        clear hw
        go_wp2_with fail
        refine (C.out _).mono ?_
        rintro e w2 ⟨rfl, hb2⟩
        have B2 := Lib.hid (hB.out.trans (((below_one wr _).trans (hb2.mono (by simp))).mono hB.out.size))
        clear hb2
        go_wp2_with fail
        go_roundw
        case rel => exact ⟨j + 1, by omega, by go_num, Lib.hid (by rw [HT.out]; intro z hz; rcases List.mem_append.1 hz with hz | hz; exact hS.out z hz; simp at hz; rw [hz]; exact HW.out), B2⟩
        case measure => simp [intOf]; omega
      · have C := Lib.hid (fun w => may_lit x false HX.out (decide_eq_false hw) w)
        unfold keyV at C
        have HG := Lib.hid (goodK_bad (by omega) x HM.out hw)
        clear hw
        go_wp2_with fail
        refine (C.out _).mono ?_
        rintro e w2 ⟨rfl, hb2⟩
        have B2 := Lib.hid (hB.out.trans (((below_one wr _).trans (hb2.mono (by simp))).mono hB.out.size))
        clear hb2
        go_wp2_with fail
        go_ret
        exact ⟨ret_int HG.out.symm, B2.out⟩
    · have hjn : ks.take j = ks := List.take_of_length_le (by omega)
      have hwd := hS.out
      rw [hjn] at hwd
      have HW := Lib.hid hwd
      have hB1 := hB
      clear hjn hwd hS hB
      go_wp2_with fail
      go_loopw [5] (fun iv wr2 => ∃ i : Nat, 1 ≤ i ∧ i ≤ n + 1 ∧ iv = .int .i64 i ∧ Hid (∀ k, k + 1 < i → k + 1 < n → ordK (ks.getD k k0) (ks.getD (k + 1) k0) < 0) ∧ Hid (Below w.heap.size w wr2)) (fun iv _ => n + 1 - (intOf iv).toNat)
      case atStart => exact ⟨1, by omega, by omega, rfl, Lib.hid (fun k h1 => by omega), hB1⟩
      case round =>
        obtain ⟨i, hi1, hi2, rfl, hS, hB⟩ := hrel
        by_cases hlt2 : i < n
        · obtain ⟨b, o, rfl, hc⟩ := (hh.below hB.out).at (by omega)
          obtain ⟨q, hq⟩ : ∃ q, q = i - 1 := ⟨_, rfl⟩
          have hqi : q + 1 = i := by omega
          obtain ⟨e3, e4⟩ := hc i hlt2
          obtain ⟨e1, e2⟩ := hc q (by omega)
          obtain ⟨x, hx⟩ : ∃ x, ks.getD q k0 = x := ⟨_, rfl⟩
          obtain ⟨y, hy⟩ : ∃ y, ks.getD i k0 = y := ⟨_, rfl⟩
          rw [hx] at e1 e2; rw [hy] at e3 e4
          have HX := Lib.hid hx; have HY := Lib.hid hy; have HQ := Lib.hid hqi
          have T := Lib.hid (show Two4 wr b (o + q * 2) (o + i * 2) x y wr from ⟨Below.refl _ _, e1, e2, e3, e4⟩)
          have hr : IntKind.i64.wrap ((i : Int) - 1) = (q : Int) := by rw [IntWalk.i64_in _ (by omega)]; omega
          have g1 : (0 : Int) ≤ (q : Int) := by omega
          have g2 : (q : Int) < (n : Int) := by omega
          have g3 : (0 : Int) ≤ (i : Int) := by omega
          have g4 : (i : Int) < (n : Int) := by omega
          have bs := hB.out.size
          clear hx hy hc hq hqi e1 e2 e3 e4
          by_cases hvn : ordK x y < 0
          · have C := Lib.hid (fun w => pless_lit x y true (decide_eq_true hvn) w)
            unfold keyV at C
            have HV := Lib.hid hvn
            clear hvn
            go_upto_region 12 with fail
            go_region_held3 (fun w' => Below wr.heap.size wr w' ∧ w'.cell? ⟨b, o + q * 2, none⟩ = some (.int .i64 x.1) ∧ w'.cell? ⟨b, o + q * 2 + 1, none⟩ = some (.string x.2) ∧ w'.cell? ⟨b, o + i * 2, none⟩ = some (.int .i64 y.1) ∧ w'.cell? ⟨b, o + i * 2 + 1, none⟩ = some (.string y.2))
              (first | assumption | exact two4_carry T.out (below_drewN wr _) | exact two4_carry T.out (Below.refl _ _).drew | exact two4_carry (by assumption) (by assumption))
              (first | (go_at_call 47; refine (C.out _).mono ?_; rintro e w' ⟨rfl, hb⟩))
            rename_i T5
            obtain ⟨hb5, -⟩ := T5
            go_wp2_with fail
            go_roundw
            case rel =>
              refine ⟨i + 1, by omega, by omega, by go_num, Lib.hid (fun k h1 h2 => ?_), Lib.hid (hB.out.trans (hb5.mono bs))⟩
              by_cases hk2 : k = q
              · subst hk2; rw [HX.out, HQ.out, HY.out]; exact HV.out
              · exact hS.out k (by have := HQ.out; omega) h2
            case measure => simp [intOf]; omega
          · have C := Lib.hid (fun w => pless_lit x y false (decide_eq_false hvn) w)
            unfold keyV at C
            have hg := goodK_sort (by omega) HW.out (fun hs => hvn (by have := (adjK_iff ks).1 hs q (by have := HQ.out; omega); rw [HX.out, HQ.out, HY.out] at this; exact this))
            have HG := Lib.hid hg
            clear hg hvn
            go_upto_region 12 with fail
            go_region_held3 (fun w' => Below wr.heap.size wr w' ∧ w'.cell? ⟨b, o + q * 2, none⟩ = some (.int .i64 x.1) ∧ w'.cell? ⟨b, o + q * 2 + 1, none⟩ = some (.string x.2) ∧ w'.cell? ⟨b, o + i * 2, none⟩ = some (.int .i64 y.1) ∧ w'.cell? ⟨b, o + i * 2 + 1, none⟩ = some (.string y.2))
              (first | assumption | exact two4_carry T.out (below_drewN wr _) | exact two4_carry T.out (Below.refl _ _).drew | exact two4_carry (by assumption) (by assumption))
              (first | (go_at_call 47; refine (C.out _).mono ?_; rintro e w' ⟨rfl, hb⟩))
            rename_i T5
            obtain ⟨hb5, -⟩ := T5
            go_wp2_with fail
            go_ret
            exact ⟨ret_int HG.out.symm, hB.out.trans (hb5.mono bs)⟩
        · have hg := goodK_of (l := ks) (by omega) HW.out ((adjK_iff ks).2 fun k hk => hS.out k (by omega) (by omega))
          have HG := Lib.hid hg
          clear hg
          go_wp2_with fail
          go_ret
          exact ⟨ret_int HG.out.symm, hB.out⟩
theorem pgood_lit (a : Option Addr) (n cap : Nat) (ks : List KV) (v : Int) (w : World) (hh : HoldsK w a n ks) (hn : n ≤ 9223372036854775807) (hk : ∀ k ∈ ks, KeyOk k) (hv : goodK ks = v) :
    Calls Try.prog 26 #[.slice a n cap] w fun e w' => e = .returned (.int .i64 v) ∧ Below w.heap.size w w' := by subst hv; exact pgood_any a n cap ks w hh hn hk
end Go.Proofs.Ytbbholdadgjelaa
/- contract of great (keys) -/
namespace Go.Proofs.Ytbbholdadgjelaa
open Go.RowKit
set_option linter.unusedVariables false
set_option maxRecDepth 20000
def greatK (ks : List KV) : Bool := decide (10 < ks.length ∨ ∃ k ∈ ks, 100 < k.2.size)
theorem greatK_yes {ks : List KV} (h : 10 < ks.length ∨ ∃ k ∈ ks, 100 < k.2.size) : greatK ks = true := decide_eq_true h
theorem greatK_no {ks : List KV} (h1 : ks.length ≤ 10) (h2 : ∀ k ∈ ks, k.2.size ≤ 100) : greatK ks = false := by
  refine decide_eq_false ?_
  rintro (h | ⟨t, ht, h⟩)
  · omega
  · have := h2 t ht; omega
theorem greatK_no_iff {ks : List KV} : greatK ks = false ↔ ks.length ≤ 10 ∧ ∀ k ∈ ks, k.2.size ≤ 100 := by
  constructor
  · intro h
    have h' := of_decide_eq_false h
    refine ⟨Nat.le_of_not_lt fun k => h' (Or.inl k), fun t ht => Nat.le_of_not_lt fun k => h' (Or.inr ⟨t, ht, k⟩)⟩
  · rintro ⟨h1, h2⟩; exact greatK_no h1 h2
abbrev confV (a : Option Addr) (n cap : Nat) : Array Value := #[.slice none 0 0, .slice a n cap, .int .i64 0, .int .i64 0, .int .i64 0, .int .i64 0, .int .i64 0, .int .i64 0, .int .i64 0, .int .i64 0, .int .i64 0, .int .i64 0]
set_option maxHeartbeats 1600000 in
theorem gconf_any (a : Option Addr) (n cap : Nat) (ks : List KV) (w : World) (hh : HoldsK w a n ks) (hn : n ≤ 9223372036854775807) (hk : ∀ k ∈ ks, KeyOk k) :
    Calls Try.prog 6 #[.agg #[.slice none 0 0, .slice a n cap, .int .i64 0, .int .i64 0, .int .i64 0, .int .i64 0, .int .i64 0, .int .i64 0, .int .i64 0, .int .i64 0, .int .i64 0, .int .i64 0]] w fun e w' => e = .returned (.bool (greatK ks)) ∧ Below w.heap.size w w' := by
  have hl := hh.len
  obtain ⟨gv, hgv⟩ : ∃ g, greatK ks = g := ⟨_, rfl⟩
  rw [hgv]
  have HG := Lib.hid hgv
  clear hgv
  have GT := Lib.hid (fun w => great_any none 0 0 [] w (HoldsT.nil _ _) (by omega) (by simp))
  rw [great_no (ts := []) (by simp) (by simp [smallP])] at GT
  have BB := Lib.hid (below_one w (.cells #[.slice none 0 0, .slice a n cap, .int .i64 0, .int .i64 0, .int .i64 0, .int .i64 0, .int .i64 0, .int .i64 0, .int .i64 0, .int .i64 0, .int .i64 0, .int .i64 0] 25))
  have e0 : (w.alloc (.cells #[.slice none 0 0, .slice a n cap, .int .i64 0, .int .i64 0, .int .i64 0, .int .i64 0, .int .i64 0, .int .i64 0, .int .i64 0, .int .i64 0, .int .i64 0, .int .i64 0] 25)).cell? ⟨w.heap.size, 0, none⟩ = some (.slice none 0 0) := by simp
  have e1 : (w.alloc (.cells #[.slice none 0 0, .slice a n cap, .int .i64 0, .int .i64 0, .int .i64 0, .int .i64 0, .int .i64 0, .int .i64 0, .int .i64 0, .int .i64 0, .int .i64 0, .int .i64 0] 25)).cell? ⟨w.heap.size, 1, none⟩ = some (.slice a n cap) := by simp
  go_enter Try.func6, Try.ntmps6
  go_wp2_with fail
  generalize w.alloc (.cells #[.slice none 0 0, .slice a n cap, .int .i64 0, .int .i64 0, .int .i64 0, .int .i64 0, .int .i64 0, .int .i64 0, .int .i64 0, .int .i64 0, .int .i64 0, .int .i64 0] 25) = w1 at *
  have H1 := Lib.hid (hh.below BB.out)
  obtain ⟨blk, hblk⟩ : ∃ blk, w.heap.size = blk := ⟨_, rfl⟩
  have HBK := Lib.hid hblk
  rw [hblk] at e0 e1 ⊢
  have C1 := Lib.hid (fun (w3 : World) (hb : Below w1.heap.size w1 w3) => show w3.cell? ⟨blk, 1, none⟩ = some (.slice a n cap) from (hb.cell (p := ⟨blk, 1, none⟩) (lt_of_cell e1)).trans e1)
  clear hblk hh
  by_cases h10 : n ≤ 10
  case neg =>
    have hg : gv = true := by rw [← HG.out]; exact greatK_yes (Or.inl (by omega))
    subst hg
    have g1 : decide ((n : Int) ≤ 10) = false := by rw [decide_eq_false_iff_not]; omega
    go_loop [3] (fun iv => iv = .int .i64 0) (fun _ => 0)
    case atStart => rfl
    case round =>
      obtain rfl := hrel
      go_wp2_with fail
      refine (GT.out _).mono ?_
      rintro e w2 ⟨rfl, hb2⟩
      have e2 := C1.out w2 hb2
      go_wp2_with fail
      go_ret
      exact ⟨ret_bool (by rw [decide_eq_true_iff]; omega), BB.out.trans (by rw [HBK.out]; exact hb2.mono (by have := BB.out.size; have := HBK.out; omega))⟩
  go_loop [3] (fun iv => ∃ j : Nat, j ≤ n ∧ iv = .int .i64 j ∧ Hid (∀ k ∈ ks.take j, k.2.size ≤ 100)) (fun iv => n - (intOf iv).toNat)
  case atStart => exact ⟨0, by omega, rfl, Lib.hid (by simp)⟩
  case round =>
    obtain ⟨j, hj, rfl, hS⟩ := hrel
    have g1 : decide ((n : Int) ≤ 10) = true := by rw [decide_eq_true_iff]; omega
    by_cases hlt : j < n
    · obtain ⟨b, o, rfl, hc⟩ := H1.out.at (by omega)
      obtain ⟨e3, e4⟩ := hc j hlt
      have hmem := getD_memK ks j (by omega)
      have htk := take_succ_getD ks k0 j (by omega)
      obtain ⟨x, hx⟩ : ∃ x, ks.getD j k0 = x := ⟨_, rfl⟩
      rw [hx] at e3 e4 hmem htk
      have hxs := (hk x hmem).2
      have HM := Lib.hid hmem; have HT := Lib.hid htk
      clear hx hmem htk hc
      by_cases hg : 100 < x.2.size
      · have hgt : gv = true := by rw [← HG.out]; exact greatK_yes (Or.inr ⟨x, HM.out, hg⟩)
        subst hgt
        go_wp2_with fail
        go_ret
        exact ⟨rfl, BB.out⟩
      · go_wp2_with fail
        go_round
        case rel => exact ⟨j + 1, by omega, by go_num, Lib.hid (by rw [HT.out]; intro z hz; rcases List.mem_append.1 hz with hz | hz; exact hS.out z hz; simp at hz; rw [hz]; omega)⟩
        case measure => simp [intOf]; omega
    · have hjn : ks.take j = ks := List.take_of_length_le (by omega)
      have hS2 := hS.out
      rw [hjn] at hS2
      have hg : gv = false := by rw [← HG.out]; exact greatK_no (by omega) hS2
      subst hg
      go_wp2_with fail
      refine (GT.out _).mono ?_
      rintro e w2 ⟨rfl, hb2⟩
      have e2 := C1.out w2 hb2
      go_wp2_with fail
      go_ret
      exact ⟨ret_bool (by rw [decide_eq_false_iff_not]; omega), BB.out.trans (by rw [HBK.out]; exact hb2.mono (by have := BB.out.size; have := HBK.out; omega))⟩
end Go.Proofs.Ytbbholdadgjelaa
/- place: a configuration by value; May -/
namespace Go.Proofs.Ytbbholdadgjelaa
open Go.RowKit
set_option linter.unusedVariables false
set_option maxRecDepth 20000
/-- a configuration, and where its words and cuts lie -/
structure Cfg where
  wa : Option Addr
  wn : Nat
  wc : Nat
  ka : Option Addr
  kn : Nat
  kc : Nat
  W : Int
  C : Int
  S : Int
  B : Int
  L : Int
  H : Int
  F : Int
  P : Int
  J : Int
  N : Int
  ws : List Tx
  ks : List KV
def CfgOk (w : World) (c : Cfg) : Prop := HoldsT w c.wa c.wn c.ws ∧ (c.wa = none → c.wn = 0 ∧ c.wc = 0) ∧ c.wn ≤ c.wc ∧ c.wn ≤ 9223372036854775807 ∧ (∀ t ∈ c.ws, t.size ≤ 9223372036854775807) ∧ HoldsK w c.ka c.kn c.ks ∧ c.kn ≤ 9223372036854775807 ∧ ∀ k ∈ c.ks, KeyOk k
theorem CfgOk.below {w w' : World} {c : Cfg} (h : CfgOk w c) (hb : Below w.heap.size w w') : CfgOk w' c := ⟨h.1.below hb, h.2.1, h.2.2.1, h.2.2.2.1, h.2.2.2.2.1, h.2.2.2.2.2.1.below hb, h.2.2.2.2.2.2⟩
def CfgIn (w : World) (p : Nat) (c : Cfg) : Prop := w.cell? ⟨p, 0, none⟩ = some (.slice c.wa c.wn c.wc) ∧ w.cell? ⟨p, 1, none⟩ = some (.slice c.ka c.kn c.kc) ∧ w.cell? ⟨p, 2, none⟩ = some (.int .i64 c.W) ∧ w.cell? ⟨p, 3, none⟩ = some (.int .i64 c.C) ∧ w.cell? ⟨p, 4, none⟩ = some (.int .i64 c.S) ∧ w.cell? ⟨p, 5, none⟩ = some (.int .i64 c.B) ∧ w.cell? ⟨p, 6, none⟩ = some (.int .i64 c.L) ∧ w.cell? ⟨p, 7, none⟩ = some (.int .i64 c.H) ∧ w.cell? ⟨p, 8, none⟩ = some (.int .i64 c.F) ∧ w.cell? ⟨p, 9, none⟩ = some (.int .i64 c.P) ∧ w.cell? ⟨p, 10, none⟩ = some (.int .i64 c.J) ∧ w.cell? ⟨p, 11, none⟩ = some (.int .i64 c.N)
theorem CfgIn.of {w w' : World} {p : Nat} {c : Cfg} (h : CfgIn w p c) (e : ∀ i, w'.cell? ⟨p, i, none⟩ = w.cell? ⟨p, i, none⟩) : CfgIn w' p c := by
  unfold CfgIn at *
  rw [e, e, e, e, e, e, e, e, e, e, e, e]; exact h
theorem CfgIn.below {w w' : World} {p : Nat} {c : Cfg} (h : CfgIn w p c) (hb : Below w.heap.size w w') : CfgIn w' p c := h.of fun i => hb.cell (p := ⟨p, i, none⟩) (lt_of_cell h.1)
theorem cfgIn_new (w : World) (c : Cfg) (p : Nat) (e : TypeId) (fr : Nat × Nat) (hp : p = w.heap.size) : CfgIn (w.alloc (.cells #[.slice c.wa c.wn c.wc, .slice c.ka c.kn c.kc, .int .i64 c.W, .int .i64 c.C, .int .i64 c.S, .int .i64 c.B, .int .i64 c.L, .int .i64 c.H, .int .i64 c.F, .int .i64 c.P, .int .i64 c.J, .int .i64 c.N] e fr)) p c := by
  subst hp
  unfold CfgIn
  refine ⟨?_, ?_, ?_, ?_, ?_, ?_, ?_, ?_, ?_, ?_, ?_, ?_⟩ <;> (rw [World.cell?_alloc_mark]; rfl)
theorem pin_lit (n lo hi : Int) (c : Bool) (w : World) (h : decide (lo ≤ n ∧ n ≤ hi) = c) :
    Calls Try.prog 27 #[.int .i64 n, .int .i64 lo, .int .i64 hi] w fun e w' => e = .returned (.bool c) ∧ w = w' := by
  subst h
  go_enter Try.func27, Try.ntmps27
  go_wp2
  all_goals (go_ret; exact ⟨ret_bool (by simp; try omega), rfl⟩)
/-- may it be? -/
def Cfg.may (c : Cfg) : Bool := decide (goodV c.ws = 0) && (decide (goodK c.ks = 0) && (decide (1 ≤ c.W ∧ c.W ≤ 5) && (decide (1 ≤ c.C ∧ c.C ≤ min 3 c.W) && (decide (1 ≤ c.S ∧ c.S ≤ 4) && (decide (1 ≤ c.B ∧ c.B ≤ 5) && (decide (1 ≤ c.L ∧ c.L ≤ 1000) && (decide (1 ≤ c.H ∧ c.H ≤ 1000) && (decide (1 ≤ c.F ∧ c.F ≤ 10) && (decide (c.F ≤ c.P ∧ c.P ≤ 50) && (decide (0 ≤ c.J ∧ c.J ≤ 10) && (decide (8 ≤ c.N ∧ c.N ≤ 64))))))))))))
set_option maxHeartbeats 6400000 in
set_option maxRecDepth 100000 in
theorem may_cfg (c : Cfg) (z : Bool) (w : World) (h : CfgOk w c) (hz : c.may = z) :
    Calls Try.prog 7 #[.agg #[.slice c.wa c.wn c.wc, .slice c.ka c.kn c.kc, .int .i64 c.W, .int .i64 c.C, .int .i64 c.S, .int .i64 c.B, .int .i64 c.L, .int .i64 c.H, .int .i64 c.F, .int .i64 c.P, .int .i64 c.J, .int .i64 c.N]] w fun e w' => e = .returned (.bool z) ∧ Below w.heap.size w w' := by
  obtain ⟨v1, hv1⟩ : ∃ v, goodV c.ws = v := ⟨_, rfl⟩
  obtain ⟨v2, hv2⟩ : ∃ v, goodK c.ks = v := ⟨_, rfl⟩
  unfold Cfg.may at hz
  rw [hv1, hv2] at hz
  obtain ⟨z0, h0⟩ : ∃ z, decide (v1 = 0) = z := ⟨_, rfl⟩
  obtain ⟨z1, h1⟩ : ∃ z, decide (v2 = 0) = z := ⟨_, rfl⟩
  obtain ⟨z2, h2⟩ : ∃ z, decide (1 ≤ c.W ∧ c.W ≤ 5) = z := ⟨_, rfl⟩
  obtain ⟨z3, h3⟩ : ∃ z, decide (1 ≤ c.C ∧ c.C ≤ min 3 c.W) = z := ⟨_, rfl⟩
  obtain ⟨z4, h4⟩ : ∃ z, decide (1 ≤ c.S ∧ c.S ≤ 4) = z := ⟨_, rfl⟩
  obtain ⟨z5, h5⟩ : ∃ z, decide (1 ≤ c.B ∧ c.B ≤ 5) = z := ⟨_, rfl⟩
  obtain ⟨z6, h6⟩ : ∃ z, decide (1 ≤ c.L ∧ c.L ≤ 1000) = z := ⟨_, rfl⟩
  obtain ⟨z7, h7⟩ : ∃ z, decide (1 ≤ c.H ∧ c.H ≤ 1000) = z := ⟨_, rfl⟩
  obtain ⟨z8, h8⟩ : ∃ z, decide (1 ≤ c.F ∧ c.F ≤ 10) = z := ⟨_, rfl⟩
  obtain ⟨z9, h9⟩ : ∃ z, decide (c.F ≤ c.P ∧ c.P ≤ 50) = z := ⟨_, rfl⟩
  obtain ⟨z10, h10⟩ : ∃ z, decide (0 ≤ c.J ∧ c.J ≤ 10) = z := ⟨_, rfl⟩
  obtain ⟨z11, h11⟩ : ∃ z, decide (8 ≤ c.N ∧ c.N ≤ 64) = z := ⟨_, rfl⟩
  rw [h0, h1, h2, h3, h4, h5, h6, h7, h8, h9, h10, h11] at hz
  have HZ := Lib.hid hz
  have V1 := Lib.hid hv1; have V2 := Lib.hid hv2
  have H2 := Lib.hid h2
  have H3 := Lib.hid h3
  have H4 := Lib.hid h4
  have H5 := Lib.hid h5
  have H6 := Lib.hid h6
  have H7 := Lib.hid h7
  have H8 := Lib.hid h8
  have H9 := Lib.hid h9
  have H10 := Lib.hid h10
  have H11 := Lib.hid h11
  have e0 : (v1 == 0) = z0 := by rw [← h0]; rfl
  have e1 : (v2 == 0) = z1 := by rw [← h1]; rfl
  have OK := Lib.hid (h.below (below_one w (.cells #[.slice c.wa c.wn c.wc, .slice c.ka c.kn c.kc, .int .i64 c.W, .int .i64 c.C, .int .i64 c.S, .int .i64 c.B, .int .i64 c.L, .int .i64 c.H, .int .i64 c.F, .int .i64 c.P, .int .i64 c.J, .int .i64 c.N] 25)))
  have BX := Lib.hid (below_one w (.cells #[.slice c.wa c.wn c.wc, .slice c.ka c.kn c.kc, .int .i64 c.W, .int .i64 c.C, .int .i64 c.S, .int .i64 c.B, .int .i64 c.L, .int .i64 c.H, .int .i64 c.F, .int .i64 c.P, .int .i64 c.J, .int .i64 c.N] 25))
  have IN := Lib.hid (cfgIn_new w c w.heap.size 25 (0, 0) rfl)
  clear hz hv1 hv2 h0 h1 h2 h3 h4 h5 h6 h7 h8 h9 h10 h11 h
  go_enter Try.func7, Try.ntmps7
  go_wp2_with fail
  refine (good_any' c.wa c.wn c.wc c.ws _ OK.out.1 OK.out.2.2.2.1 OK.out.2.2.2.2.1).mono ?_
  rw [V1.out]
  rintro e w2 ⟨rfl, hb2⟩
  have I2 := Lib.hid (IN.out.below hb2)
  have OK2 := Lib.hid (OK.out.below hb2)
  have B2 := Lib.hid (BX.out.trans (hb2.mono BX.out.size))
  clear hb2
  have hI := I2.out
  unfold CfgIn at hI
  obtain ⟨i0, i1, i2, i3, i4, i5, i6, i7, i8, i9, i10, i11⟩ := hI
  cases z0
  · go_wp2_with fail
    go_ret
    exact ⟨by rw [← HZ.out]; rfl, B2.out⟩
  go_wp2_with fail
  refine (pgood_any c.ka c.kn c.kc c.ks _ OK2.out.2.2.2.2.2.1 OK2.out.2.2.2.2.2.2.1 OK2.out.2.2.2.2.2.2.2).mono ?_
  rw [V2.out]
  rintro e w3 ⟨rfl, hb3⟩
  have I3 := Lib.hid (I2.out.below hb3)
  have BZ := Lib.hid (B2.out.trans (hb3.mono B2.out.size))
  clear hb3 i0 i1 i2 i3 i4 i5 i6 i7 i8 i9 i10 i11
  have hI := I3.out
  unfold CfgIn at hI
  obtain ⟨i0, i1, i2, i3, i4, i5, i6, i7, i8, i9, i10, i11⟩ := hI
  cases z1
  · go_wp2_with fail
    go_ret
    exact ⟨by rw [← HZ.out]; rfl, BZ.out⟩
  go_wp2_with fail
  refine (pin_lit c.W 1 5 z2 _ H2.out).mono ?_
  rintro e w' ⟨rfl, rfl⟩
  cases z2
  · go_wp2_with fail
    go_ret
    exact ⟨by rw [← HZ.out]; rfl, BZ.out⟩
  go_wp2_with fail
  refine (pin_lit c.C 1 (min 3 c.W) z3 _ H3.out).mono ?_
  rintro e w' ⟨rfl, rfl⟩
  cases z3
  · go_wp2_with fail
    go_ret
    exact ⟨by rw [← HZ.out]; rfl, BZ.out⟩
  go_wp2_with fail
  refine (pin_lit c.S 1 4 z4 _ H4.out).mono ?_
  rintro e w' ⟨rfl, rfl⟩
  cases z4
  · go_wp2_with fail
    go_ret
    exact ⟨by rw [← HZ.out]; rfl, BZ.out⟩
  go_wp2_with fail
  refine (pin_lit c.B 1 5 z5 _ H5.out).mono ?_
  rintro e w' ⟨rfl, rfl⟩
  cases z5
  · go_wp2_with fail
    go_ret
    exact ⟨by rw [← HZ.out]; rfl, BZ.out⟩
  go_wp2_with fail
  refine (pin_lit c.L 1 1000 z6 _ H6.out).mono ?_
  rintro e w' ⟨rfl, rfl⟩
  cases z6
  · go_wp2_with fail
    go_ret
    exact ⟨by rw [← HZ.out]; rfl, BZ.out⟩
  go_wp2_with fail
  refine (pin_lit c.H 1 1000 z7 _ H7.out).mono ?_
  rintro e w' ⟨rfl, rfl⟩
  cases z7
  · go_wp2_with fail
    go_ret
    exact ⟨by rw [← HZ.out]; rfl, BZ.out⟩
  go_wp2_with fail
  refine (pin_lit c.F 1 10 z8 _ H8.out).mono ?_
  rintro e w' ⟨rfl, rfl⟩
  cases z8
  · go_wp2_with fail
    go_ret
    exact ⟨by rw [← HZ.out]; rfl, BZ.out⟩
  go_wp2_with fail
  refine (pin_lit c.P c.F 50 z9 _ H9.out).mono ?_
  rintro e w' ⟨rfl, rfl⟩
  cases z9
  · go_wp2_with fail
    go_ret
    exact ⟨by rw [← HZ.out]; rfl, BZ.out⟩
  go_wp2_with fail
  refine (pin_lit c.J 0 10 z10 _ H10.out).mono ?_
  rintro e w' ⟨rfl, rfl⟩
  cases z10
  · go_wp2_with fail
    go_ret
    exact ⟨by rw [← HZ.out]; rfl, BZ.out⟩
  go_wp2_with fail
  refine (pin_lit c.N 8 64 z11 _ H11.out).mono ?_
  rintro e w' ⟨rfl, rfl⟩
  cases z11
  · go_wp2_with fail
    go_ret
    exact ⟨by rw [← HZ.out]; rfl, BZ.out⟩
  go_wp2_with fail
  go_ret
  exact ⟨by rw [← HZ.out]; rfl, BZ.out⟩
end Go.Proofs.Ytbbholdadgjelaa
/- awake of the laws of cuts -/
namespace Go.Proofs.Ytbbholdadgjelaa
open Go.RowKit
set_option linter.unusedVariables false
set_option maxRecDepth 20000
abbrev tM : Tx := { data := #[109] }
abbrev tE0 : Tx := { data := #[] }
abbrev tZ : Tx := { data := #[122] }
abbrev tAA : Tx := { data := #[97, 97] }
abbrev tMMM : Tx := { data := #[109, 109, 109] }
def pairL : List KV := [(2, tE0), (3, tM)]
theorem cmpS_dataK (a b : Tx) : cmpS a b = cmpL a.data.toList b.data.toList := by unfold cmpS; rw [ByteArray.toList_eq, ByteArray.toList_eq]
theorem lzZ : lenS tZ = 1 := by decide
theorem lzAA : lenS tAA = 2 := by decide
theorem lzMMM : lenS tMMM = 3 := by decide
theorem lzM : lenS tM = 1 := by decide
theorem lzE : lenS tE0 = 0 := by decide
theorem caa : cmpS tAA tE0 = 1 := by rw [cmpS_dataK]; decide
theorem cmm : cmpS tMMM tM = 1 := by rw [cmpS_dataK]; decide
theorem of_z : ofZ pairL tZ = 0 := by
  have hw : wordP tZ := by decide
  simp [ofZ, hw, ofN, pairL, keyOf, List.findIdx_cons, ordK, lzZ]
theorem of_aa : ofZ pairL tAA = 1 := by
  have hw : wordP tAA := by decide
  simp [ofZ, hw, ofN, pairL, keyOf, List.findIdx_cons, ordK, lzAA, caa]
theorem of_mmm : ofZ pairL tMMM = 2 := by
  have hw : wordP tMMM := by decide
  simp [ofZ, hw, ofN, pairL, keyOf, List.findIdx_cons, ordK, lzMMM, cmm]
theorem may_pair : ∀ k ∈ pairL, mayK k := by
  intro k hk
  simp [pairL] at hk
  rcases hk with rfl | rfl <;> simp [mayK, lzE, lzM]
theorem lo_pair : loK pairL 1 = 2 := by simp [loK, pairL]
theorem hi_pair : hiK pairL 1 = 3 := by
  have h : tM ≠ ByteArray.empty := by intro h; have := congrArg ByteArray.size h; exact absurd this (by decide)
  unfold hiK
  rw [if_pos (show 1 < pairL.length by decide), if_neg (show ¬ (pairL.getD 1 k0).2 = ByteArray.empty from h)]
  rfl
theorem least_pair : leastK pairL 1 6 = 3 := by unfold leastK; rw [lo_pair, hi_pair]; decide
end Go.Proofs.Ytbbholdadgjelaa
/- the laws of cuts: a greater key -/
namespace Go.Proofs.Ytbbholdadgjelaa
open Go.RowKit
set_option linter.unusedVariables false
set_option maxRecDepth 20000
theorem findIdx_mono {α : Type} (p q : α → Bool) (h : ∀ x, q x = true → p x = true) : ∀ xs : List α, xs.findIdx p ≤ xs.findIdx q
  | [] => by simp
  | x :: xs => by
    rw [List.findIdx_cons, List.findIdx_cons]
    cases hq : q x with
    | true => simp [h x hq]
    | false =>
      cases hp : p x with
      | true => simp
      | false => simpa using findIdx_mono p q h xs
theorem ofN_mono (ks : List KV) {x y : KV} (h : ordK x y < 0) : ofN ks x ≤ ofN ks y :=
  findIdx_mono _ _ (fun c hc => by rw [decide_eq_true_iff] at *; exact ordK_trans h hc) ks
theorem ofZ_word {ks : List KV} {t : Tx} (h : wordP t) : ofZ ks t = ofN ks (keyOf t) := if_pos h
theorem lenl_any (t : Tx) (l : Int) (w : World) (ht : t.size ≤ 9223372036854775807) (hl : lenS t = l) :
    Calls Try.prog 72 #[.string t] w fun e w' => e = .returned (.int .i64 l) ∧ Below w.heap.size w w' := by subst hl; exact len_any t w ht
end Go.Proofs.Ytbbholdadgjelaa
/- a list of texts that was answered -/
namespace Go.Proofs.Ytbbholdadgjelaa
open Go.RowKit
set_option linter.unusedVariables false
set_option maxRecDepth 20000
theorem str_info : (Try.prog.info? 9).map (fun i => (i.zero, i.size, i.bytes)) = some (some (.string ⟨#[]⟩), 1, 16) := by kernel_rfl
theorem getD_memT' (zs : List Tx) (j : Nat) (h : j < zs.length) : zs.getD j ByteArray.empty ∈ zs := by
  rw [List.getD_eq_getElem?_getD, List.getElem?_eq_getElem h]; simp
/-- a list of texts that was answered, the call's own -/
def RetO (w : World) (ys : List Tx) (e : Ending) (w' : World) : Prop := ∃ a c, e = .returned (.slice a ys.length c) ∧ w'.ownsRow w.heap.size 9 1 (.slice a ys.length c) ys.length (strsV ys) ∧ Below w.heap.size w w'
theorem ret_own {w w' : World} {a : Option Addr} {c n : Nat} {ys zs : List Tx} (h : ys = zs) (hn : ys.length = n) (hh : w'.ownsRow w.heap.size 9 1 (.slice a n c) n (strsV ys)) (hb : Below w.heap.size w w') (v : Value) (hv : v = .slice a n c) : RetO w zs (.returned v) w' := by
  subst h hv hn; exact ⟨a, c, rfl, hh, hb⟩
end Go.Proofs.Ytbbholdadgjelaa
/- contract of part.Slice -/
namespace Go.Proofs.Ytbbholdadgjelaa
open Go.RowKit
set_option linter.unusedVariables false
set_option maxRecDepth 20000
def sliceS (ks : List KV) (ws : List Tx) (s : Nat) : List Tx := ws.filter fun t => decide (ofZ ks t = (s : Int))
theorem sliceS_yes (ks : List KV) (ws : List Tx) (s : Nat) (x : Tx) (h : ofZ ks x = (s : Int)) : sliceS ks (ws ++ [x]) s = sliceS ks ws s ++ [x] := by
  unfold sliceS; rw [List.filter_append]; simp [h]
theorem sliceS_no (ks : List KV) (ws : List Tx) (s : Nat) (x : Tx) (h : ¬ ofZ ks x = (s : Int)) : sliceS ks (ws ++ [x]) s = sliceS ks ws s := by
  unfold sliceS; rw [List.filter_append]; simp [h]
set_option maxHeartbeats 1600000 in
theorem slice_any (a : Option Addr) (n cap : Nat) (ks : List KV) (a1 : Option Addr) (n1 cap1 : Nat) (ws : List Tx) (s : Nat) (w : World) (hh : HoldsK w a n ks) (hh1 : HoldsT w a1 n1 ws) (hn : n ≤ 1000) (hn1 : n1 ≤ 1000) (hs : s ≤ 1000) (hsz : ∀ t ∈ ws, t.size ≤ 9223372036854775807) :
    Calls Try.prog 43 #[.slice a n cap, .slice a1 n1 cap1, .int .i64 s] w (RetO w (sliceS ks ws s)) := by
  obtain ⟨i0, hi, hz0, hz1, hz2⟩ := info_parts str_info
  have hl := hh1.len
  go_enter Try.func43, Try.ntmps43
  go_wp2_with fail
  go_loopw [7, 13] (fun ov iv wr => ∃ (j : Nat) (P : List Tx), j ≤ n1 ∧ P.length ≤ j ∧ iv = .int .i64 j ∧ Hid (P = sliceS ks (ws.take j) s) ∧ Hid (wr.ownsRow w.heap.size 9 1 ov P.length (strsV P)) ∧ Hid (Below w.heap.size w wr)) (fun _ iv _ => n1 - (intOf iv).toNat)
  case atStart => exact ⟨0, [], by omega, by simp, rfl, Lib.hid rfl, Lib.hid (World.ownsRow_nil _ _ _ _), Lib.hid (Below.refl _ _)⟩
  case round =>
    obtain ⟨j, P, hj, hPl, rfl, hP, hO, hB⟩ := hrel
    by_cases hlt : j < n1
    · have hcell := hh1.at (by omega)
      obtain ⟨bb, o, rfl, hc'⟩ := hcell
      have e0 := hc' j hlt
      have HC := Lib.hid (fun (w3 : World) (hb : Below w.heap.size w w3) => show w3.cell? ⟨bb, o + j, none⟩ = some (.string (ws.getD j ByteArray.empty)) from (hb.cell (p := ⟨bb, o + j, none⟩) (lt_of_cell e0)).trans e0)
      have hmem := getD_memT' ws j (by omega)
      have htk := take_succ_getD ws ByteArray.empty j (by omega)
      obtain ⟨x, hx⟩ : ∃ x, ws.getD j ByteArray.empty = x := ⟨_, rfl⟩
      rw [hx] at htk hmem
      simp only [hx] at HC
      have HT := Lib.hid htk
      have HX := Lib.hid (hsz x hmem)
      clear hx htk hc' e0 hmem
      have e1 := HC.out _ hB.out
      have H1 := Lib.hid (hh.below hB.out)
      obtain ⟨v, hv⟩ : ∃ v, ofZ ks x = v := ⟨_, rfl⟩
      have HV := Lib.hid hv
      by_cases hin : v = (s : Int)
      · subst hin
        have hls := sliceS_yes ks (ws.take j) s x hv
        rw [← HT.out, ← hP.out] at hls
        have HL := Lib.hid hls
        have g1 : decide ((s : Int) ≥ 0) = true := by rw [decide_eq_true_iff]; omega
        have g2 : ((s : Int) == (s : Int)) = true := by simp
        clear hls hv
        go_wp2_with fail
        refine (pof_lit a n cap ks x s wr H1.out (by omega) HX.out HV.out).mono ?_
        rintro e w2 ⟨rfl, hb2⟩
        have O2 := Lib.hid (owns_below hO.out hb2)
        have B2 := Lib.hid (hB.out.trans (hb2.mono hB.out.size))
        clear hb2 e1 hO hB
        go_wp2_with (at_builtin; refine wpList_append_any rfl (.tmp 27) (.tmp 29) 22 rfl w.heap.size 9 i0 (.string ⟨#[]⟩) 1 16 Try.underlying22 hi hz0 hz1 hz2 rfl (by decide) _ P.length _ rfl (O2.out.alloc _) _ 1 1 _ rfl (some_none _) rfl (one_new _ _ _ _) (one_str _) (by unfold maxLen; omega) (by omega) (by have := B2.out.size; simp; omega) ?_; intro a3 c3 w3 hown3 hb3 hnil3)
        rw [← strsV_snoc] at hown3
        have O3 := Lib.hid hown3
        have B3 := Lib.hid ((B2.out.alloc B2.out.size _).trans hb3)
        clear hown3 hb3 hnil3
        go_roundw
        case rel => exact ⟨j + 1, P ++ [x], by omega, by simp; omega, by go_num, Lib.hid HL.out.symm, Lib.hid (by have := O3.out; simpa using this), B3⟩
        case measure => simp [intOf]; omega
      · have hls := sliceS_no ks (ws.take j) s x (by rw [hv]; exact hin)
        rw [← HT.out, ← hP.out] at hls
        have HL := Lib.hid hls
        have g2 : (v == (s : Int)) = false := by simpa using hin
        clear hls hv
        go_wp2_with fail
        refine (pof_lit a n cap ks x v wr H1.out (by omega) HX.out HV.out).mono ?_
        rintro e w2 ⟨rfl, hb2⟩
        have O2 := Lib.hid (owns_below hO.out hb2)
        have B2 := Lib.hid (hB.out.trans (hb2.mono hB.out.size))
        clear hb2 e1 hO hB
        by_cases hv0 : v ≥ 0
        · have g1 : decide (v ≥ 0) = true := decide_eq_true hv0
          go_wp2_with fail
          go_roundw
          case rel => exact ⟨j + 1, P, by omega, by omega, by go_num, Lib.hid HL.out.symm, O2, B2⟩
          case measure => simp [intOf]; omega
        · have g1 : decide (v ≥ 0) = false := decide_eq_false hv0
          go_wp2_with fail
          go_roundw
          case rel => exact ⟨j + 1, P, by omega, by omega, by go_num, Lib.hid HL.out.symm, O2, B2⟩
          case measure => simp [intOf]; omega
    · have hjn : ws.take j = ws := List.take_of_length_le (by omega)
      have hP2 := hP.out
      rw [hjn] at hP2
      have HP := Lib.hid hP2
      clear hP hP2 hjn
      obtain ⟨a4, c4, rfl⟩ : ∃ a4 c4, u7 = .slice a4 P.length c4 := by
        rcases hO.out.2 with ⟨h, h0⟩ | ⟨g', c', cur, h, _⟩
        · exact ⟨none, 0, by rw [h, h0]⟩
        · exact ⟨_, c', h⟩
      go_wp2_with fail
      go_ret
      exact ret_own HP.out rfl hO.out hB.out _ rfl
end Go.Proofs.Ytbbholdadgjelaa
/- contract of text.Asked -/
namespace Go.Proofs.Ytbbholdadgjelaa
open Go.RowKit
set_option linter.unusedVariables false
set_option maxRecDepth 20000
end Go.Proofs.Ytbbholdadgjelaa
/- Edit distances by a table: plain lemmas. -/
namespace Go.Proofs.Ytbbholdadgjelaa
set_option linter.unusedVariables false
set_option maxRecDepth 20000
namespace Ed
def cost (x y : Int) : Int := if x = y then 0 else 1
theorem cost_bd (x y : Int) : 0 ≤ cost x y ∧ cost x y ≤ 1 := by unfold cost; split <;> omega
/-- the distance of the first i of a and the first j of b -/
def L (a b : List Int) : Nat → Nat → Int
  | 0, j => j
  | i + 1, 0 => (i : Int) + 1
  | i + 1, j + 1 => min (min (L a b i j + cost (a.getD i 0) (b.getD j 0)) (L a b (i + 1) j + 1)) (L a b i (j + 1) + 1)
/-- a row of the table turned into the next one, for the rune r -/
def adv (R : List Int) (a : List Int) (r : Int) : Nat → Int
  | 0 => R.getD 0 0 + 1
  | i + 1 => min (min (R.getD i 0 + cost (a.getD i 0) r) (R.getD (i + 1) 0 + 1)) (adv R a r i + 1)
/-- the row of the first j of b -/
def row (a b : List Int) (j : Nat) : List Int := (List.range (a.length + 1)).map fun i => L a b i j
theorem row_length (a b : List Int) (j : Nat) : (row a b j).length = a.length + 1 := by simp [row]
theorem row_getD (a b : List Int) (j i : Nat) (h : i ≤ a.length) : (row a b j).getD i 0 = L a b i j := by
  simp [row, List.getD_eq_getElem?_getD, show i < a.length + 1 by omega]
theorem adv_row (a b : List Int) (j i : Nat) (h : i ≤ a.length) : adv (row a b j) a (b.getD j 0) i = L a b i (j + 1) := by
  induction i with
  | zero => rw [adv, row_getD a b j 0 (by omega)]; simp only [L]; omega
  | succ i ih => rw [adv, row_getD a b j i (by omega), row_getD a b j (i + 1) h, ih (by omega)]; simp only [L]
/-- the first k + 1 of a row turned, the rest as it was -/
def mix (R : List Int) (a : List Int) (r : Int) (k : Nat) : List Int := (List.range R.length).map fun i => if i ≤ k then adv R a r i else R.getD i 0
theorem mix_length (R a : List Int) (r : Int) (k : Nat) : (mix R a r k).length = R.length := by simp [mix]
theorem mix_old (R a : List Int) (r : Int) (k i : Nat) (h : i < R.length) (hk : k < i) : (mix R a r k).getD i 0 = R.getD i 0 := by
  simp [mix, List.getD_eq_getElem?_getD, h, show ¬ i ≤ k by omega]
theorem mix_new (R a : List Int) (r : Int) (k i : Nat) (h : i < R.length) (hk : i ≤ k) : (mix R a r k).getD i 0 = adv R a r i := by
  simp [mix, List.getD_eq_getElem?_getD, h, hk]
theorem mix_set (R a : List Int) (r : Int) (k : Nat) (h : k + 1 < R.length) : (mix R a r k).set (k + 1) (adv R a r (k + 1)) = mix R a r (k + 1) := by
  apply List.ext_getElem
  · simp [mix]
  · intro i h1 h2
    rw [List.getElem_set]
    simp only [mix, List.getElem_map, List.getElem_range]
    by_cases e : k + 1 = i
    · subst e; simp
    · rw [if_neg e]
      by_cases h3 : i ≤ k
      · simp [h3, show i ≤ k + 1 by omega]
      · simp [h3, show ¬ i ≤ k + 1 by omega]
theorem mix_zero (R a : List Int) (r : Int) (h : 0 < R.length) : R.set 0 (R.getD 0 0 + 1) = mix R a r 0 := by
  apply List.ext_getElem
  · simp [mix]
  · intro i h1 h2
    rw [List.getElem_set]
    simp only [mix, List.getElem_map, List.getElem_range]
    by_cases e : 0 = i
    · subst e; simp [adv]
    · rw [if_neg e, if_neg (by omega)]
      have h3 : i < R.length := by simpa using h1
      simp [List.getD_eq_getElem?_getD, h3]
theorem mix_all (a b : List Int) (j : Nat) : mix (row a b j) a (b.getD j 0) a.length = row a b (j + 1) := by
  unfold mix
  rw [row_length]
  refine List.map_congr_left fun i hi => ?_
  have := List.mem_range.1 hi
  rw [if_pos (by omega), adv_row a b j i (by omega)]
theorem adv_bd (R a : List Int) (r M : Int) (hM : 0 ≤ M) (h : ∀ i, 0 ≤ R.getD i 0 ∧ R.getD i 0 ≤ M) (i : Nat) : 0 ≤ adv R a r i ∧ adv R a r i ≤ M + 1 := by
  induction i with
  | zero => have := h 0; simp only [adv]; omega
  | succ i ih => have h1 := h i; have h2 := h (i + 1); have h3 := cost_bd (a.getD i 0) r; simp only [adv]; omega
theorem L_bd (a b : List Int) : ∀ i j, 0 ≤ L a b i j ∧ L a b i j ≤ (i : Int) + j := by
  intro i
  induction i with
  | zero => intro j; simp only [L]; omega
  | succ i ih =>
    intro j
    induction j with
    | zero => simp only [L]; omega
    | succ j ihj => have h1 := ih j; have h2 := ih (j + 1); have h3 := cost_bd (a.getD i 0) (b.getD j 0); simp only [L]; omega
theorem row_bd (a b : List Int) (j : Nat) : ∀ i, 0 ≤ (row a b j).getD i 0 ∧ (row a b j).getD i 0 ≤ (a.length : Int) + j := by
  intro i
  by_cases h : i ≤ a.length
  · rw [row_getD a b j i h]; have := L_bd a b i j; omega
  · have : (row a b j).getD i 0 = 0 := by
      rw [List.getD_eq_getElem?_getD, List.getElem?_eq_none (by rw [row_length]; omega)]; rfl
    omega
end Ed
end Go.Proofs.Ytbbholdadgjelaa
/- contracts of rows: the first row of a table, and a row turned into the next one -/
namespace Go.Proofs.Ytbbholdadgjelaa
open Go.RowKit
set_option linter.unusedVariables false
set_option maxRecDepth 20000
def intsV (zs : List Int) : List Value := zs.map (Value.int .i64)
theorem int_info : (Try.prog.info? 3).map (fun i => (i.zero, i.size, i.bytes)) = some (some (.int .i64 0), 1, 8) := by kernel_rfl
theorem intsV_set (zs : List Int) (j : Nat) (x : Int) : (intsV zs).set j (.int .i64 x) = intsV (zs.set j x) := by simp [intsV, List.map_set]
theorem intsV_at (zs : List Int) (j : Nat) (h : j < zs.length) : (intsV zs)[j]? = some (.int .i64 (zs.getD j 0)) := by simp [intsV, List.getD_eq_getElem?_getD, h]
theorem intsV_one (zs : List Int) : ∀ u ∈ intsV zs, u.oneCell' = true := ints_oneCell _ _
/-- the numbers from 0 on, the first k; 0 behind them -/
def upTo (n k : Nat) : List Int := (List.range n).map fun i => if i < k then (i : Int) else 0
theorem upTo_set (n k : Nat) (h : k < n) : (upTo n k).set k (k : Int) = upTo n (k + 1) := by
  apply List.ext_getElem
  · simp [upTo]
  · intro i h1 h2
    rw [List.getElem_set]
    simp only [upTo, List.getElem_map, List.getElem_range]
    by_cases e : k = i
    · subst e; simp
    · rw [if_neg e]
      by_cases h3 : i < k
      · simp [h3, show i < k + 1 by omega]
      · simp [h3, show ¬ i < k + 1 by omega]
theorem upTo_zero (n : Nat) : intsV (upTo n 0) = List.replicate n (.int .i64 0) := by
  apply List.ext_getElem
  · simp [intsV, upTo]
  · intro i h1 h2; simp [intsV, upTo]
theorem upTo_row (a b : List Int) : upTo (a.length + 1) (a.length + 1) = Ed.row a b 0 := by
  unfold upTo Ed.row
  refine List.map_congr_left fun i hi => ?_
  have := List.mem_range.1 hi
  rw [if_pos (by omega)]
  cases i with
  | zero => simp only [Ed.L]
  | succ i => simp only [Ed.L]; omega
theorem upTo_length (n k : Nat) : (upTo n k).length = n := by simp [upTo]
end Go.Proofs.Ytbbholdadgjelaa
/- contract of rows.Advance: a row of a table turned into the next one, in place -/
namespace Go.Proofs.Ytbbholdadgjelaa
open Go.RowKit
set_option linter.unusedVariables false
set_option maxRecDepth 20000
theorem cost_eq (x : Int) : Ed.cost x x = 0 := by simp [Ed.cost]
theorem cost_ne {x y : Int} (h : x ≠ y) : Ed.cost x y = 1 := by simp [Ed.cost, h]
theorem store_grown (w : World) (g i : Nat) (v : Value) : w.grownBy (w.setCell ⟨g, i, none⟩ v) (some g) :=
  ⟨rfl, rfl, rfl, by simp [World.setCell], fun k _ hk => Below.heap_setCell _ _ _ _ (fun e => hk (by rw [e]))⟩
theorem grown_trans {a b c : World} {r : Option Nat} (h : a.grownBy b r) (k : b.grownBy c r) : a.grownBy c r :=
  ⟨k.os.trans h.os, k.tape.trans h.tape, k.output.trans h.output, Nat.le_trans h.size k.size, fun i hi hr => (k.block i (Nat.lt_of_lt_of_le hi h.size) hr).trans (h.block i hi hr)⟩
theorem own_val {w : World} {p : Addr} {base : Nat} {e : TypeId} {size : Nat} {v : Value} {n : Nat} {xs : List Value} {V x : Int} (h : (w.setCell p (.int .i64 V)).ownsRow base e size v n xs) (hx : x = V) : (w.setCell p (.int .i64 x)).ownsRow base e size v n xs := by
  rw [hx]; exact h
end Go.Proofs.Ytbbholdadgjelaa
/- contract of text.Runes -/
namespace Go.Proofs.Ytbbholdadgjelaa
open Go.RowKit
set_option linter.unusedVariables false
set_option maxRecDepth 20000
end Go.Proofs.Ytbbholdadgjelaa
/- rows in memory: preliminaries -/
namespace Go.Proofs.Ytbbholdadgjelaa
open Go.RowKit
set_option linter.unusedVariables false
set_option maxRecDepth 20000
theorem holdsI_lt {k : IntKind} {w : World} {a : Option Addr} {n : Nat} {zs : List Int} (h : HoldsI k w a n zs) : ∀ b o, 0 < n → a = some ⟨b, o, none⟩ → b < w.heap.size := by
  intro b o h0 ha
  obtain ⟨b2, o2, hb, hc⟩ := h.2 h0
  rw [ha] at hb
  injection hb with hb
  injection hb with hb1 hb2
  subst hb1
  have := hc 0 h0
  exact lt_of_cell this
/-- A row of distances that the call made. -/
def RetRow (w : World) (ra rb : List Int) (j : Nat) (g : Nat) (c : Nat) (w' : World) : Prop :=
  w'.ownsRow w.heap.size 3 1 (.slice (some ⟨g, 0, none⟩) (ra.length + 1) c) (ra.length + 1) (intsV (Ed.row ra rb j)) ∧ Below w.heap.size w w'
end Go.Proofs.Ytbbholdadgjelaa
/- contract of edit.Distance -/
namespace Go.Proofs.Ytbbholdadgjelaa
open Go.RowKit
set_option linter.unusedVariables false
set_option maxRecDepth 20000
/-- the distance of two strings, or -1 -/
def distS (a b : ByteArray) : Int := if 0 ≤ lenS a ∧ 0 ≤ lenS b then Ed.L (intsN (runesS a)) (intsN (runesS b)) (runesS a).length (runesS b).length else -1
theorem intsN_length (P : List Nat) : (intsN P).length = P.length := by simp [intsN]
theorem intsN_at {s : ByteArray} {P Q : List Nat} {r : Nat} (h : runesS s = P ++ r :: Q) : (intsN (runesS s)).getD P.length 0 = (r : Int) := by
  rw [h]; simp [intsN, List.getD_eq_getElem?_getD]
end Go.Proofs.Ytbbholdadgjelaa
/- Edit distances: lists that have no rune together, lists that have one; how much one step changes. -/
namespace Go.Proofs.Ytbbholdadgjelaa
set_option linter.unusedVariables false
set_option maxRecDepth 20000
namespace Ed
theorem L_zero (a b : List Int) (i : Nat) : L a b i 0 = (i : Int) := by
  cases i with
  | zero => simp only [L]
  | succ i => simp only [L]; omega
theorem L_zeroL (a b : List Int) (j : Nat) : L a b 0 j = (j : Int) := by simp only [L]
theorem L_left (a b : List Int) (i j : Nat) : L a b (i + 1) j ≤ L a b i j + 1 := by
  cases j with
  | zero => rw [L_zero, L_zero]; omega
  | succ j => simp only [L]; omega
theorem L_right (a b : List Int) (i j : Nat) : L a b i (j + 1) ≤ L a b i j + 1 := by
  cases i with
  | zero => rw [L_zeroL, L_zeroL]; omega
  | succ i => simp only [L]; omega
theorem L_lefts (a b : List Int) (i j p : Nat) : L a b (i + p) j ≤ L a b i j + p := by
  induction p with
  | zero => simp
  | succ p ih => have := L_left a b (i + p) j; rw [← Nat.add_assoc]; omega
theorem L_rights (a b : List Int) (i j p : Nat) : L a b i (j + p) ≤ L a b i j + p := by
  induction p with
  | zero => simp
  | succ p ih => have := L_right a b i (j + p); rw [← Nat.add_assoc]; omega
theorem L_apart (a b : List Int) (h : ∀ i j, i < a.length → j < b.length → a.getD i 0 ≠ b.getD j 0) : ∀ i j, i ≤ a.length → j ≤ b.length → L a b i j = ((max i j : Nat) : Int) := by
  intro i
  induction i with
  | zero => intro j _ _; rw [L_zeroL]; simp
  | succ i ih =>
    intro j hi
    induction j with
    | zero => intro _; rw [L_zero]; simp
    | succ j ihj =>
      intro hj
      have h1 := ih j (by omega) (by omega)
      have h2 := ih (j + 1) (by omega) hj
      have h3 := ihj (by omega)
      have hc : cost (a.getD i 0) (b.getD j 0) = 1 := by unfold cost; rw [if_neg (h i j (by omega) (by omega))]
      simp only [L]
      rw [h1, h2, h3, hc]
      omega
theorem L_meet (a b : List Int) (i j : Nat) (hi : i < a.length) (hj : j < b.length) (h : a.getD i 0 = b.getD j 0) : L a b a.length b.length < (a.length : Int) + b.length := by
  have h1 : L a b (i + 1) (j + 1) ≤ L a b i j := by
    have hc : cost (a.getD i 0) (b.getD j 0) = 0 := by unfold cost; rw [if_pos h]
    simp only [L]; rw [hc]; omega
  have h2 := L_bd a b i j
  have h3 := L_lefts a b (i + 1) (j + 1) (a.length - (i + 1))
  have h4 := L_rights a b a.length (j + 1) (b.length - (j + 1))
  rw [show i + 1 + (a.length - (i + 1)) = a.length by omega] at h3
  rw [show j + 1 + (b.length - (j + 1)) = b.length by omega] at h4
  omega
end Ed
end Go.Proofs.Ytbbholdadgjelaa
/- Edit distances are a metric. -/
namespace Go.Proofs.Ytbbholdadgjelaa
set_option linter.unusedVariables false
set_option maxRecDepth 20000
namespace Ed
theorem cost_sym (x y : Int) : cost x y = cost y x := by
  unfold cost
  by_cases h : x = y
  · rw [if_pos h, if_pos h.symm]
  · rw [if_neg h, if_neg (fun e => h e.symm)]
theorem cost_tri (x y z : Int) : cost x z ≤ cost x y + cost y z := by
  unfold cost
  by_cases h : x = y
  · by_cases h2 : y = z
    · rw [if_pos h, if_pos h2, if_pos (h.trans h2)]; omega
    · rw [if_pos h, if_neg h2]; split <;> omega
  · rw [if_neg h]; split <;> split <;> omega
theorem L_sym (a b : List Int) : ∀ i j, L a b i j = L b a j i := by
  intro i
  induction i with
  | zero => intro j; rw [L_zeroL, L_zero]
  | succ i ih =>
    intro j
    induction j with
    | zero => rw [L_zero, L_zeroL]
    | succ j ihj =>
      have h1 := ih j; have h2 := ih (j + 1); have h3 := cost_sym (a.getD i 0) (b.getD j 0)
      simp only [L]
      rw [h1, h2, ihj, h3]
      omega
theorem L_low (a b : List Int) : ∀ (i j : Nat), (i : Int) - j ≤ L a b i j ∧ (j : Int) - i ≤ L a b i j := by
  intro i
  induction i with
  | zero => intro j; rw [L_zeroL]; omega
  | succ i ih =>
    intro j
    induction j with
    | zero => rw [L_zero]; omega
    | succ j ihj => have h1 := ih j; have h2 := ih (j + 1); have h3 := cost_bd (a.getD i 0) (b.getD j 0); simp only [L]; omega
theorem L_diag (a b : List Int) (i j : Nat) : L a b (i + 1) (j + 1) ≤ L a b i j + cost (a.getD i 0) (b.getD j 0) := by
  simp only [L]; omega
theorem L_up (a b : List Int) : ∀ i j, L a b i j ≤ ((max i j : Nat) : Int) := by
  intro i
  induction i with
  | zero => intro j; rw [L_zeroL]; omega
  | succ i ih =>
    intro j
    cases j with
    | zero => rw [L_zero]; omega
    | succ j => have h1 := ih j; have h2 := L_diag a b i j; have h3 := cost_bd (a.getD i 0) (b.getD j 0); omega
theorem L_same (a : List Int) : ∀ i, L a a i i = 0 := by
  intro i
  induction i with
  | zero => rw [L_zeroL]; rfl
  | succ i ih =>
    have h1 := L_diag a a i i
    have h2 := (L_bd a a (i + 1) (i + 1)).1
    have h3 : cost (a.getD i 0) (a.getD i 0) = 0 := by unfold cost; rw [if_pos rfl]
    omega
theorem L_none (a b : List Int) : ∀ i, L a b i i = 0 → ∀ t, t < i → a.getD t 0 = b.getD t 0 := by
  intro i
  induction i with
  | zero => intro _ t h; omega
  | succ i ih =>
    intro h t ht
    have h1 := L_bd a b i i; have h2 := L_bd a b (i + 1) i; have h3 := L_bd a b i (i + 1); have h4 := cost_bd (a.getD i 0) (b.getD i 0)
    simp only [L] at h
    have h5 : L a b i i = 0 := by omega
    have h6 : cost (a.getD i 0) (b.getD i 0) = 0 := by omega
    rcases Nat.lt_or_ge t i with h7 | h7
    · exact ih h5 t h7
    · obtain rfl : t = i := by omega
      unfold cost at h6
      split at h6
      · assumption
      · omega
theorem L_zero_iff (a b : List Int) : L a b a.length b.length = 0 ↔ a = b := by
  constructor
  · intro h
    have h1 := L_low a b a.length b.length
    have hl : a.length = b.length := by omega
    rw [← hl] at h
    have h2 := L_none a b a.length h
    apply List.ext_getElem hl
    intro i h3 h4
    have h5 := h2 i h3
    simpa [List.getD_eq_getElem?_getD, h3, h4] using h5
  · rintro rfl; exact L_same a _
theorem L_tri (a b c : List Int) : ∀ n i j k, i + j + k ≤ n → L a c i k ≤ L a b i j + L b c j k := by
  intro n
  induction n with
  | zero =>
    intro i j k h
    obtain rfl : i = 0 := by omega
    obtain rfl : j = 0 := by omega
    obtain rfl : k = 0 := by omega
    simp only [L]; omega
  | succ n ih =>
    intro i j k h
    cases i with
    | zero => rw [L_zeroL, L_zeroL]; have := L_low b c j k; omega
    | succ i =>
      cases k with
      | zero => rw [L_zero, L_zero]; have := L_low a b (i + 1) j; omega
      | succ k =>
        cases j with
        | zero => rw [L_zero, L_zeroL]; have := L_bd a c (i + 1) (k + 1); omega
        | succ j =>
          have i1 := ih i (j + 1) (k + 1) (by omega)
          have i2 := ih (i + 1) (j + 1) k (by omega)
          have i3 := ih (i + 1) j (k + 1) (by omega)
          have i4 := ih (i + 1) j k (by omega)
          have i5 := ih i j (k + 1) (by omega)
          have i6 := ih i j k (by omega)
          have u1 := L_left a c i (k + 1)
          have u2 := L_right a c (i + 1) k
          have u3 := L_diag a c i k
          have c1 := cost_bd (a.getD i 0) (b.getD j 0); have c2 := cost_bd (b.getD j 0) (c.getD k 0)
          have t := cost_tri (a.getD i 0) (b.getD j 0) (c.getD k 0)
          have x1 : L a b (i + 1) (j + 1) = min (min (L a b i j + cost (a.getD i 0) (b.getD j 0)) (L a b (i + 1) j + 1)) (L a b i (j + 1) + 1) := by simp only [L]
          have x2 : L b c (j + 1) (k + 1) = min (min (L b c j k + cost (b.getD j 0) (c.getD k 0)) (L b c (j + 1) k + 1)) (L b c j (k + 1) + 1) := by simp only [L]
          omega
end Ed
end Go.Proofs.Ytbbholdadgjelaa
/- a list of texts as argument, opened -/
namespace Go.Proofs.Ytbbholdadgjelaa
open Go.ChangeShapes Go.WideShapes Go.ChangeAt Go.RowKit
set_option linter.unusedVariables false
set_option maxRecDepth 20000
theorem Try.cellsStr : Try.prog.cellsOf 9 = 1 := by kernel_rfl
theorem open_texts_arg {H : Type} {enc : TypeId × Value → H} {W : World} {base : Nat} {v : Value} {d : DataW H} {p : List MemPlace}
    (o : Value.okWide Try.prog W .any base 22 v) (h : DataW.Trod enc Try.prog W 0 (fun _ => true) true 22 v d p) :
    ∃ a n cap ts, v = .slice a n cap ∧ HoldsT W a n ts ∧ (a = none → n = 0 ∧ cap = 0) ∧ n ≤ cap ∧ n ≤ 9223372036854775807 ∧ ∀ t ∈ ts, t.size ≤ 9223372036854775807 := by
  obtain ⟨a, len, cap, rfl⟩ := okWide_slice Try.underlying22 o
  obtain ⟨fuel, hf⟩ := h
  rcases open_strings Try.underlying22 Try.underlying9 Try.cellsStr hf with ⟨hcs, _⟩ | ⟨x, l, c, ss, hcs, _, hl, hm, hz, _, hcell, hsz⟩
  · simp [Value.cells] at hcs
    obtain ⟨rfl, rfl, rfl⟩ := hcs
    exact ⟨none, 0, 0, [], rfl, HoldsT.nil _ _, fun _ => ⟨rfl, rfl⟩, Nat.le_refl _, by omega, by simp⟩
  · simp [Value.cells] at hcs
    obtain ⟨rfl, rfl, rfl⟩ := hcs
    have hzc : ss.length = cap := by simpa using hz
    refine ⟨some x, len, cap, ss.take len, rfl, ?_, (fun h => by cases h), hl, by unfold maxLen at hm; omega, fun t ht => by have := hsz t (List.mem_of_mem_take ht); unfold maxLen at this; omega⟩
    refine ⟨by simp [strsV]; omega, fun h0 => ?_⟩
    obtain ⟨b, off, spot⟩ := x
    have hspot : spot = none := by simpa [Addr.add] using World.cell?_spot (hcell 0 (by omega))
    subst hspot
    refine ⟨b, off, rfl, fun i hi => ?_⟩
    rw [← Go.WideShapes.add_plain, hcell i (by omega), getD_map_str _ i (by simp; omega)]
    congr 2
    simp only [List.getD_eq_getElem?_getD, List.getElem?_take]
    rw [if_pos hi]
end Go.Proofs.Ytbbholdadgjelaa
/- the laws of cuts: no word of a shard is nearer -/
namespace Go.Proofs.Ytbbholdadgjelaa
open Go.RowKit
set_option linter.unusedVariables false
set_option maxRecDepth 20000
theorem ofN_below {ks : List KV} {k : KV} {i : Nat} (h : i < ofN ks k) (hi : i < ks.length) : ¬ ordK k (ks.getD i k0) < 0 := by
  have := List.not_of_lt_findIdx h
  have e : ks.getD i k0 = ks[i] := by simp [List.getD_eq_getElem?_getD, hi]
  rw [e]; simpa using this
theorem ofN_at {ks : List KV} {k : KV} (h : ofN ks k < ks.length) : ordK k (ks.getD (ofN ks k) k0) < 0 := by
  have h3 : decide (ordK k ks[ofN ks k] < 0) = true := List.findIdx_getElem (w := h)
  have e : ks.getD (ofN ks k) k0 = ks[ofN ks k] := by simp [List.getD_eq_getElem?_getD, h]
  rw [e]; exact of_decide_eq_true h3
theorem cmpS_empty (t : Tx) : ¬ cmpS t ByteArray.empty < 0 := by
  rw [cmpS_lt]
  have h : (ByteArray.empty).toList = [] := by rw [ByteArray.toList_eq]; rfl
  rw [h]
  exact List.not_lt_nil _
/-- the lengths that words of a shard have -/
theorem lens_of {ks : List KV} {t : Tx} (hw : wordP t) : loK ks (ofN ks (keyOf t)) ≤ lenS t ∧ lenS t ≤ hiK ks (ofN ks (keyOf t)) := by
  obtain ⟨s, hs⟩ : ∃ s, ofN ks (keyOf t) = s := ⟨_, rfl⟩
  have hle := ofN_le ks (keyOf t)
  have h1 := fun i => @ofN_below ks (keyOf t) i
  have h2 := @ofN_at ks (keyOf t)
  rw [hs] at hle h1 h2
  rw [hs]
  constructor
  · unfold loK
    split
    · have h3 := h1 (s - 1) (by omega) (by omega)
      rw [ordK_lt] at h3
      unfold keyOf at h3
      simp only at h3
      omega
    · exact hw.1
  · unfold hiK
    split
    · rename_i h4
      have h3 := h2 h4
      rw [ordK_lt] at h3
      unfold keyOf at h3
      simp only at h3
      split
      · rename_i h5
        rw [h5] at h3
        rcases h3 with h3 | h3
        · omega
        · exact absurd h3.2 (cmpS_empty t)
      · omega
    · exact hw.2
theorem dist_low {a b : Tx} (ha : 0 ≤ lenS a) (hb : 0 ≤ lenS b) : lenS a - lenS b ≤ distS a b ∧ lenS b - lenS a ≤ distS a b := by
  unfold distS
  rw [if_pos ⟨ha, hb⟩]
  have h := Ed.L_low (intsN (runesS a)) (intsN (runesS b)) (runesS a).length (runesS b).length
  have h1 := (lenS_pos ha).2
  have h2 := (lenS_pos hb).2
  omega
theorem least_low {ks : List KV} {t u : Tx} (hw : wordP t) (hu : 0 ≤ lenS u) : 0 ≤ leastK ks (ofN ks (keyOf t)) (lenS u) ∧ leastK ks (ofN ks (keyOf t)) (lenS u) ≤ distS t u := by
  obtain ⟨h1, h2⟩ := lens_of (ks := ks) hw
  have hwl := hw.1
  obtain ⟨h3, h4⟩ := dist_low (a := t) (b := u) (by omega) hu
  unfold leastK
  rw [if_neg (by omega)]
  have h0 : 0 ≤ distS t u := by
    unfold distS; rw [if_pos ⟨by omega, hu⟩]
    exact (Ed.L_bd _ _ _ _).1
  omega
end Go.Proofs.Ytbbholdadgjelaa
/- small facts on lists of texts -/
namespace Go.Proofs.Ytbbholdadgjelaa
open Go.RowKit
set_option linter.unusedVariables false
set_option maxRecDepth 20000
theorem drop_cons (ts : List Tx) (j : Nat) (h : j < ts.length) : ts.drop j = ts.getD j ByteArray.empty :: ts.drop (j + 1) := by
  rw [List.drop_eq_getElem_cons h]
  simp [List.getD_eq_getElem?_getD, h]
theorem compare_lit (x y : Tx) (v : Int) (hv : cmpS x y = v) (w : World) : Calls Try.prog 45 #[.string x, .string y] w fun e w' => e = .returned (.int .i64 v) ∧ w = w' := by subst hv; exact compare_any x y w
end Go.Proofs.Ytbbholdadgjelaa
/- contract of list.Merge -/
namespace Go.Proofs.Ytbbholdadgjelaa
open Go.RowKit
set_option linter.unusedVariables false
set_option maxRecDepth 20000
/-- 'make([]T, 0, c)': a slice of the call's own with room -/
theorem wpList_make_room {P : Program} (w : World) {ops : Array Oper} {rest : List Oper} {o : Oper} {a : Act} {Q : Exit → Act → World → Prop}
    (hg : o.guard = none) (l c : Operand) (t : TypeId) (hop : o.op = Op.makeSlice t l c)
    (e : TypeId) (i : TypeInfo) (z : Value) (bytes : Nat) (ht : P.underlying t = some (.slice e)) (hi : P.info? e = some i) (hz : i.zero = some z) (hsize : i.size = 1) (hby : i.bytes = bytes) (hz1 : z.cells = #[z])
    (base n : Nat) (hl : a.eval l = .int .i64 0) (cv : Int) (hc : a.eval c = .int .i64 cv) (hcv : cv = (n : Int)) (hbytes : bytes * n ≤ 281474976710656) (h63 : n ≤ maxLen) (hbase : base ≤ w.heap.size)
    (hK : ∀ w', w'.ownsRow base e 1 (.slice (some ⟨w.heap.size, 0, none⟩) 0 n) 0 [] → Below base w w' → wpList P ops Q rest (a.put o.dst (.slice (some ⟨w.heap.size, 0, none⟩) 0 n)) w') :
    wpList P ops Q (o :: rest) a w := by
  subst hcv
  refine wpList_plain hg fun K hK' => ?_
  have hb' : (i.bytes : Int) * (n : Int) ≤ 281474976710656 := by
    rw [hby]
    have h : ((bytes * n : Nat) : Int) ≤ 281474976710656 := by omega
    rwa [Int.natCast_mul] at h
  have hrun := run_make (P := P) w t e i z ht hi hz .i64 .i64 0 n (Int.le_refl _) (by omega) hb' (by unfold maxLen at h63; omega)
  simp only [Int.toNat_natCast, Int.toNat_zero, hsize, Nat.mul_one, hz1] at hrun
  unfold Oper.wp
  simp [execOp, hop, hl, hc, hrun, Result.andThen]
  refine hK' _ _ (hK _ ?_ ((Below.refl _ _).alloc hbase _))
  exact ⟨rfl, .inr ⟨w.heap.size, n, _, rfl, hbase, heap_alloc_new w _, Nat.zero_le _, h63, by simp [madeCells], by simp⟩⟩
theorem mergeL_lt {x y : Tx} {xs ys : List Tx} (h : cmpS x y < 0) : mergeL (x :: xs) (y :: ys) = x :: mergeL xs (y :: ys) := by rw [mergeL_cons, if_pos h]
theorem mergeL_eq {x y : Tx} {xs ys : List Tx} (h : cmpS x y = 0) : mergeL (x :: xs) (y :: ys) = x :: mergeL xs ys := by rw [mergeL_cons, if_neg (by omega), if_pos h]
theorem mergeL_gt {x y : Tx} {xs ys : List Tx} (h : 0 < cmpS x y) : mergeL (x :: xs) (y :: ys) = y :: mergeL (x :: xs) ys := by rw [mergeL_cons, if_neg (by omega), if_neg (by omega)]
theorem merge_step {M P : List Tx} {x y : Tx} {xs ys : List Tx} {i j : Nat} (hM : M = P ++ mergeL (xs.drop i) (ys.drop j)) (hx : xs.drop i = x :: xs.drop (i + 1)) (hy : ys.drop j = y :: ys.drop (j + 1)) :
    (cmpS x y < 0 → M = (P ++ [x]) ++ mergeL (xs.drop (i + 1)) (ys.drop j)) ∧ (cmpS x y = 0 → M = (P ++ [x]) ++ mergeL (xs.drop (i + 1)) (ys.drop (j + 1))) ∧ (0 < cmpS x y → M = (P ++ [y]) ++ mergeL (xs.drop i) (ys.drop (j + 1))) := by
  refine ⟨fun h => ?_, fun h => ?_, fun h => ?_⟩
  · rw [hM, hx, hy, mergeL_lt h, List.append_assoc]; rfl
  · rw [hM, hx, hy, mergeL_eq h, List.append_assoc]; rfl
  · rw [hM, hx, hy, mergeL_gt h, List.append_assoc]; rfl
theorem HoldsT.tail {w : World} {b o m : Nat} {ts : List Tx} (h : HoldsT w (some ⟨b, o, none⟩) (m + 1) ts) : HoldsT w (some ⟨b, o + 1, none⟩) m (ts.drop 1) := by
  have := h.drop 1 (by omega)
  simpa using this
theorem HoldsT.tail' {w : World} {b o q c : Nat} {ts : List Tx} (h : HoldsT w (some ⟨b, o, none⟩) (q + 1) ts) (hc : q + 1 ≤ c) : HoldsT w (if c = 1 then some ⟨b, o, none⟩ else some ⟨b, o + 1, none⟩) q (ts.drop 1) := by
  split
  · obtain rfl : q = 0 := by omega
    have := h.tail
    exact ⟨this.1, fun h => absurd h (by omega)⟩
  · exact h.tail
theorem ite_none {p : Prop} {c : Prop} [Decidable c] (a b : Addr) : ((if c then some a else some b) = none) → p := by split <;> exact fun h => by cases h
def lenV : Value → Nat | .slice _ n _ => n | _ => 0
end Go.Proofs.Ytbbholdadgjelaa
/- the law that each word is one shard's -/
namespace Go.Proofs.Ytbbholdadgjelaa
open Go.RowKit
set_option linter.unusedVariables false
set_option maxRecDepth 20000
def belowS (ks : List KV) (ws : List Tx) (s : Nat) : List Tx := ws.filter fun t => decide (ofZ ks t < (s : Int))
theorem pwhole_merge {ks : List KV} {ws : List Tx} (hs : SortedS ws) (s : Nat) : mergeL (belowS ks ws s) (sliceS ks ws s) = belowS ks ws (s + 1) := by
  refine sorted_unique (mergeL_sorted _ _ _ (Nat.le_refl _) (sorted_filter _ hs) (sorted_filter _ hs)) (sorted_filter _ hs) fun z => ?_
  rw [mem_mergeL]
  unfold belowS sliceS
  simp only [List.mem_filter, decide_eq_true_eq]
  constructor
  · rintro (⟨h, k⟩ | ⟨h, k⟩)
    · exact ⟨h, by omega⟩
    · exact ⟨h, by omega⟩
  · rintro ⟨h, k⟩
    by_cases h2 : ofZ ks z < (s : Int)
    · exact Or.inl ⟨h, h2⟩
    · exact Or.inr ⟨h, by omega⟩
theorem pwhole_len (ks : List KV) (s : Nat) : ∀ ws : List Tx, (belowS ks ws (s + 1)).length = (belowS ks ws s).length + (sliceS ks ws s).length
  | [] => rfl
  | t :: ws => by
    have ih := pwhole_len ks s ws
    unfold belowS sliceS at ih ⊢
    simp only [List.filter_cons]
    rcases Int.lt_trichotomy (ofZ ks t) (s : Int) with h | h | h
    · rw [if_pos (by simp; omega), if_pos (by simp; omega), if_neg (by simp; omega), List.length_cons, List.length_cons]; omega
    · rw [if_pos (by simp; omega), if_neg (by simp; omega), if_pos (by simp; omega), List.length_cons, List.length_cons]; omega
    · rw [if_neg (by simp; omega), if_neg (by simp; omega), if_neg (by simp; omega)]; omega
theorem pwhole_zero {ks : List KV} {ws : List Tx} (hw : ∀ t ∈ ws, wordP t) : belowS ks ws 0 = [] := by
  unfold belowS
  rw [List.filter_eq_nil_iff]
  intro t ht
  rw [ofZ_word (hw t ht)]
  simp
theorem pwhole_all {ks : List KV} {ws : List Tx} (hw : ∀ t ∈ ws, wordP t) : belowS ks ws (ks.length + 1) = ws := by
  unfold belowS
  rw [List.filter_eq_self]
  intro t ht
  rw [ofZ_word (hw t ht), decide_eq_true_iff]
  have := ofN_le ks (keyOf t)
  omega
theorem pwhole_none {ks : List KV} {ws : List Tx} (hw : ∀ t ∈ ws, wordP t) : sliceS ks ws (ks.length + 1) = [] := by
  unfold sliceS
  rw [List.filter_eq_nil_iff]
  intro t ht
  rw [ofZ_word (hw t ht)]
  have := ofN_le ks (keyOf t)
  simp; omega
theorem in_shard {ks : List KV} {ws : List Tx} {s : Nat} {t : Tx} (hw : ∀ t ∈ ws, wordP t) (h : t ∈ sliceS ks ws s) : t ∈ ws ∧ ofZ ks t = (s : Int) ∧ loK ks s ≤ lenS t ∧ lenS t ≤ hiK ks s := by
  obtain ⟨h1, h2⟩ := List.mem_filter.1 h
  rw [decide_eq_true_eq] at h2
  have h3 := h2
  rw [ofZ_word (hw t h1)] at h3
  have h4 : ofN ks (keyOf t) = s := by omega
  have h5 := lens_of (ks := ks) (hw t h1)
  rw [h4] at h5
  exact ⟨h1, h2, h5⟩
def LstP (w : World) (a : Option Addr) (n c : Nat) (ts : List Tx) : Prop := HoldsT w a n ts ∧ (a = none → n = 0 ∧ c = 0) ∧ n ≤ c
theorem LstP.below {w w' : World} {a : Option Addr} {n c : Nat} {ts : List Tx} (h : LstP w a n c ts) (hb : Below w.heap.size w w') : LstP w' a n c ts := ⟨h.1.below hb, h.2⟩
theorem LstP.own {w : World} {B : Nat} {a : Option Addr} {n c : Nat} {ts : List Tx} (h : w.ownsRow B 9 1 (.slice a n c) n (strsV ts)) : LstP w a n c ts := ⟨HoldsT.own h, owns_none h⟩
theorem greatT_lit (a : Option Addr) (n cap : Nat) (ts : List Tx) (b : Bool) (w : World) (hh : HoldsT w a n ts) (hn : n ≤ 9223372036854775807) (hsz : ∀ t ∈ ts, t.size ≤ 9223372036854775807) (hb : greatB ts = b) :
    Calls Try.prog 24 #[.slice a n cap] w fun e w' => e = .returned (.bool b) ∧ Below w.heap.size w w' := by subst hb; exact great_any a n cap ts w hh hn hsz
theorem goodT_lit (a : Option Addr) (n cap : Nat) (ts : List Tx) (v : Int) (w : World) (hh : HoldsT w a n ts) (hn : n ≤ 9223372036854775807) (hsz : ∀ t ∈ ts, t.size ≤ 9223372036854775807) (hv : goodV ts = v) :
    Calls Try.prog 25 #[.slice a n cap] w fun e w' => e = .returned (.int .i64 v) ∧ Below w.heap.size w w' := by subst hv; exact good_any' a n cap ts w hh hn hsz
theorem sliceP_lst (a : Option Addr) (n cap : Nat) (ks : List KV) (a1 : Option Addr) (n1 cap1 : Nat) (ws zs : List Tx) (s k : Nat) (w : World) (hh : HoldsK w a n ks) (hh1 : HoldsT w a1 n1 ws) (hn : n ≤ 1000) (hn1 : n1 ≤ 1000) (hs : s ≤ 1000) (hsz : ∀ t ∈ ws, t.size ≤ 9223372036854775807) (hz : sliceS ks ws s = zs) (hk : zs.length = k) :
    Calls Try.prog 43 #[.slice a n cap, .slice a1 n1 cap1, .int .i64 s] w fun e w' => ∃ a' c', e = .returned (.slice a' k c') ∧ LstP w' a' k c' zs ∧ Below w.heap.size w w' := by
  subst hz hk
  exact (slice_any a n cap ks a1 n1 cap1 ws s w hh hh1 hn hn1 hs hsz).mono fun _ _ ⟨a', c', h1, h2, h3⟩ => ⟨a', c', h1, LstP.own h2, h3⟩
end Go.Proofs.Ytbbholdadgjelaa
/- place: Shards, hasShard, GreatConfig, Words -/
namespace Go.Proofs.Ytbbholdadgjelaa
open Go.RowKit
set_option linter.unusedVariables false
set_option maxRecDepth 20000
theorem may_parts {c : Cfg} (h : c.may = true) : goodV c.ws = 0 ∧ goodK c.ks = 0 ∧ (1 ≤ c.W ∧ c.W ≤ 5) ∧ (1 ≤ c.C ∧ c.C ≤ 3 ∧ c.C ≤ c.W) ∧ (1 ≤ c.S ∧ c.S ≤ 4) ∧ (1 ≤ c.B ∧ c.B ≤ 5) ∧ (1 ≤ c.L ∧ c.L ≤ 1000) ∧ (1 ≤ c.H ∧ c.H ≤ 1000) ∧ (1 ≤ c.F ∧ c.F ≤ 10) ∧ (c.F ≤ c.P ∧ c.P ≤ 50) ∧ (0 ≤ c.J ∧ c.J ≤ 10) ∧ (8 ≤ c.N ∧ c.N ≤ 64) := by
  unfold Cfg.may at h
  simp only [Bool.and_eq_true, decide_eq_true_eq] at h
  obtain ⟨h0, h1, h2, h3, h4, h5, h6, h7, h8, h9, h10, h11⟩ := h
  exact ⟨h0, h1, h2, ⟨h3.1, by omega, by omega⟩, h4, h5, h6, h7, h8, h9, h10, h11⟩
theorem may_kn {w : World} {c : Cfg} (h : c.may = true) (ok : CfgOk w c) : c.kn ≤ 5 := by
  have := (goodK_zero (may_parts h).2.1).1
  have := ok.2.2.2.2.2.1.len
  omega
set_option maxHeartbeats 1600000 in
theorem shards_any (c : Cfg) (w : World) (h : CfgOk w c) (hm : c.may = true) :
    Calls Try.prog 29 #[.agg #[.slice c.wa c.wn c.wc, .slice c.ka c.kn c.kc, .int .i64 c.W, .int .i64 c.C, .int .i64 c.S, .int .i64 c.B, .int .i64 c.L, .int .i64 c.H, .int .i64 c.F, .int .i64 c.P, .int .i64 c.J, .int .i64 c.N]] w fun e w' => e = .returned (.int .i64 ((c.kn + 1 : Nat) : Int)) ∧ Below w.heap.size w w' := by
  have BX := Lib.hid (below_one w (.cells #[.slice c.wa c.wn c.wc, .slice c.ka c.kn c.kc, .int .i64 c.W, .int .i64 c.C, .int .i64 c.S, .int .i64 c.B, .int .i64 c.L, .int .i64 c.H, .int .i64 c.F, .int .i64 c.P, .int .i64 c.J, .int .i64 c.N] 25))
  have IN := Lib.hid (cfgIn_new w c w.heap.size 25 (0, 0) rfl)
  have CM := Lib.hid (may_cfg c true _ (h.below BX.out) hm)
  have hk := may_kn hm h
  have hw1 : IntKind.i64.wrap ((c.kn : Int) + 1) = ((c.kn + 1 : Nat) : Int) := by rw [IntWalk.i64_in _ (by omega)]; omega
  clear h hm
  go_enter Try.func29, Try.ntmps29
  go_wp2_with fail
  refine CM.out.mono ?_
  rintro e w2 ⟨rfl, hb2⟩
  have B2 := Lib.hid (BX.out.trans (hb2.mono BX.out.size))
  have hI := IN.out.below hb2
  unfold CfgIn at hI
  obtain ⟨i0, i1, -⟩ := hI
  clear hb2 CM
  go_wp2_with fail
  go_ret
  exact ⟨rfl, B2.out⟩
set_option maxHeartbeats 1600000 in
theorem has_any (c : Cfg) (s : Int) (z : Bool) (w : World) (h : CfgOk w c) (hm : c.may = true) (hz : decide (0 ≤ s ∧ s < ((c.kn + 1 : Nat) : Int)) = z) :
    Calls Try.prog 48 #[.agg #[.slice c.wa c.wn c.wc, .slice c.ka c.kn c.kc, .int .i64 c.W, .int .i64 c.C, .int .i64 c.S, .int .i64 c.B, .int .i64 c.L, .int .i64 c.H, .int .i64 c.F, .int .i64 c.P, .int .i64 c.J, .int .i64 c.N], .int .i64 s] w fun e w' => e = .returned (.bool z) ∧ Below w.heap.size w w' := by
  have BX := Lib.hid (below_one w (.cells #[.slice c.wa c.wn c.wc, .slice c.ka c.kn c.kc, .int .i64 c.W, .int .i64 c.C, .int .i64 c.S, .int .i64 c.B, .int .i64 c.L, .int .i64 c.H, .int .i64 c.F, .int .i64 c.P, .int .i64 c.J, .int .i64 c.N] 25))
  have IN := Lib.hid (cfgIn_new w c w.heap.size 25 (0, 0) rfl)
  have CM := Lib.hid (shards_any c _ (h.below BX.out) hm)
  have BXX := BX.out
  by_cases h0 : 0 ≤ s
  · have d1 : decide (s ≥ 0) = true := decide_eq_true h0
    have d2 : decide (s < ((c.kn + 1 : Nat) : Int)) = z := by rw [← hz]; simp [h0]
    have d3 : decide (s < (c.kn : Int) + 1) = z := by rw [← d2]; congr 1
    clear h hm hz
    go_enter Try.func48, Try.ntmps48
    go_wp2_with fail
    refine CM.out.mono ?_
    rintro e w2 ⟨rfl, hb2⟩
    have B2 := Lib.hid (BX.out.trans (hb2.mono BX.out.size))
    clear hb2 CM
    go_wp2_with fail
    go_ret
    exact ⟨rfl, B2.out⟩
  · have d1 : decide (s ≥ 0) = false := decide_eq_false h0
    obtain rfl : z = false := by rw [← hz]; exact decide_eq_false (fun h => h0 h.1)
    clear h hm hz
    go_enter Try.func48, Try.ntmps48
    go_wp2_with fail
    go_ret
    exact ⟨rfl, BX.out⟩
def GreatC (w : World) (e : Ending) (w' : World) : Prop := ∃ z, e = .returned (.bool z) ∧ Below w.heap.size w w'
set_option maxHeartbeats 1600000 in
theorem greatC_any (c : Cfg) (w : World) (h : CfgOk w c) :
    Calls Try.prog 6 #[.agg #[.slice c.wa c.wn c.wc, .slice c.ka c.kn c.kc, .int .i64 c.W, .int .i64 c.C, .int .i64 c.S, .int .i64 c.B, .int .i64 c.L, .int .i64 c.H, .int .i64 c.F, .int .i64 c.P, .int .i64 c.J, .int .i64 c.N]] w (GreatC w) := by
  have BX := Lib.hid (below_one w (.cells #[.slice c.wa c.wn c.wc, .slice c.ka c.kn c.kc, .int .i64 c.W, .int .i64 c.C, .int .i64 c.S, .int .i64 c.B, .int .i64 c.L, .int .i64 c.H, .int .i64 c.F, .int .i64 c.P, .int .i64 c.J, .int .i64 c.N] 25))
  have IN := Lib.hid (cfgIn_new w c w.heap.size 25 (0, 0) rfl)
  have OK := Lib.hid (h.below BX.out)
  clear h
  go_enter Try.func6, Try.ntmps6
  go_upto_region 2 with fail
  have BE := Lib.hid BX.out
  generalize w.alloc (.cells #[.slice c.wa c.wn c.wc, .slice c.ka c.kn c.kc, .int .i64 c.W, .int .i64 c.C, .int .i64 c.S, .int .i64 c.B, .int .i64 c.L, .int .i64 c.H, .int .i64 c.F, .int .i64 c.P, .int .i64 c.J, .int .i64 c.N] 25) = w1 at *
  obtain ⟨p, hp⟩ : ∃ p, w.heap.size = p := ⟨_, rfl⟩
  rw [hp] at IN
  rw [hp]
  obtain ⟨i0, i1, -⟩ := IN.out
  clear hp
  have hl := OK.out.2.2.2.2.2.1.len
  by_cases h10 : c.kn ≤ 10
  · have d1 : decide (c.kn ≤ 10) = true := decide_eq_true h10
    have d2 : decide ((c.kn : Int) > 10) = false := decide_eq_false (by omega)
    have d3 : decide (10 < c.kn) = false := decide_eq_false (by omega)
    go_loop [3] (fun iv => ∃ i : Nat, i ≤ c.kn ∧ iv = .int .i64 i) (fun iv => c.kn - (intOf iv).toNat)
    case atStart => exact ⟨0, by omega, rfl⟩
    case round =>
      obtain ⟨i, hi, rfl⟩ := hrel
      by_cases hlt : i < c.kn
      · obtain ⟨kb, ko, hka, hc⟩ := OK.out.2.2.2.2.2.1.2 (by omega)
        have e2 := (hc i hlt).2
        obtain ⟨x, hx⟩ : ∃ x, (c.ks.getD i k0).2 = x := ⟨_, rfl⟩
        rw [hx] at e2
        rw [hka] at i1
        clear hc hx
        by_cases hbig : 100 < x.size
        · have c2 : decide (100 < x.size) = true := decide_eq_true hbig
          have c3 : decide ((x.size : Int) > 100) = true := decide_eq_true (by omega)
          go_wp2_with fail
          go_ret
          exact ⟨true, rfl, BE.out⟩
        · have c2 : decide (100 < x.size) = false := decide_eq_false hbig
          have c3 : decide ((x.size : Int) > 100) = false := decide_eq_false (by omega)
          go_wp2_with fail
          go_round
          case rel => exact ⟨i + 1, by omega, by go_num⟩
          case measure => simp [intOf]; omega
      · obtain rfl : i = c.kn := by omega
        go_wp2_with fail
        refine (great_any c.wa c.wn c.wc c.ws _ OK.out.1 OK.out.2.2.2.1 OK.out.2.2.2.2.1).mono ?_
        generalize greatB c.ws = z
        rintro e w2 ⟨rfl, hb2⟩
        have j1 := (hb2.cell (p := ⟨p, 1, none⟩) (lt_of_cell i1)).trans i1
        have B2 := Lib.hid (BE.out.trans (hb2.mono BE.out.size))
        clear hb2
        cases z
        · go_wp2_with fail
          go_ret
          exact ⟨_, rfl, B2.out⟩
        · go_wp2_with fail
          go_ret
          exact ⟨_, rfl, B2.out⟩
  · have d1 : decide (c.kn ≤ 10) = false := decide_eq_false h10
    have d2 : decide ((c.kn : Int) > 10) = true := decide_eq_true (by omega)
    have d3 : decide (10 < c.kn) = true := decide_eq_true (by omega)
    have d4 : decide (0 < c.kn) = true := decide_eq_true (by omega)
    go_loop [3] (fun iv => iv = .int .i64 ((0 : Nat) : Int)) (fun _ => 0)
    case atStart => exact rfl
    case round =>
      obtain rfl := hrel
      go_wp2_with fail
      refine (great_any c.wa c.wn c.wc c.ws _ OK.out.1 OK.out.2.2.2.1 OK.out.2.2.2.2.1).mono ?_
      generalize greatB c.ws = z
      rintro e w2 ⟨rfl, hb2⟩
      have j1 := (hb2.cell (p := ⟨p, 1, none⟩) (lt_of_cell i1)).trans i1
      have B2 := Lib.hid (BE.out.trans (hb2.mono BE.out.size))
      clear hb2
      cases z
      · go_wp2_with fail
        go_ret
        exact ⟨_, rfl, B2.out⟩
      · go_wp2_with fail
        go_ret
        exact ⟨_, rfl, B2.out⟩
end Go.Proofs.Ytbbholdadgjelaa
/- two slices of one kind of numbers held against each other -/
namespace Go.Proofs.Ytbbholdadgjelaa
open Go.RowKit
set_option linter.unusedVariables false
set_option maxRecDepth 20000
end Go.Proofs.Ytbbholdadgjelaa
/- new lists of numbers -/
namespace Go.Proofs.Ytbbholdadgjelaa
open Go.RowKit
set_option linter.unusedVariables false
set_option maxRecDepth 20000
def numsV (zs : List Int) : List Value := zs.map (Value.int .i64)
theorem numsV_one (zs : List Int) : ∀ u ∈ numsV zs, u.oneCell' = true := fun u h => by
  unfold numsV at h
  obtain ⟨z, _, rfl⟩ := List.mem_map.1 h
  rfl
theorem holdsI_values {k : IntKind} {w : World} {a : Option Addr} {n : Nat} {zs : List Int} (h : HoldsV w a n (zs.map (Value.int k))) : HoldsI k w a n zs := by
  have hl : zs.length = n := by simpa using h.1
  refine ⟨hl, fun h0 => ?_⟩
  obtain ⟨b, o, ha, hc⟩ := h.2 h0
  exact ⟨b, o, ha, fun i hi => by rw [hc i hi]; simp [List.getD_eq_getElem?_getD, show i < zs.length by omega]⟩
theorem num_info : (Try.prog.info? 3).map (fun i => (i.zero, i.size, i.bytes)) = some (some (.int .i64 0), 1, 8) := by kernel_rfl
/-- a call's answer: a new list of numbers -/
def RetZ (w : World) (zs : List Int) (e : Ending) (w' : World) : Prop := ∃ a c, e = .returned (.slice a zs.length c) ∧ w'.ownsRow w.heap.size 3 1 (.slice a zs.length c) zs.length (numsV zs) ∧ Below w.heap.size w w'
theorem holdsZ_own {w : World} {base : Nat} {e : TypeId} {a : Option Addr} {n c : Nat} {zs : List Int} (h : w.ownsRow base e 1 (.slice a n c) n (numsV zs)) : HoldsI .i64 w a n zs := holdsI_values (owns_holds h)
def natsZ (l : List Nat) : List Int := l.map fun s : Nat => (s : Int)
theorem natsZ_len (l : List Nat) : (natsZ l).length = l.length := by simp [natsZ]
theorem natsZ_at (l : List Nat) (i : Nat) : (natsZ l).getD i 0 = ((l.getD i 0 : Nat) : Int) := by
  unfold natsZ
  by_cases h : i < l.length
  · rw [List.getD_eq_getElem?_getD, List.getElem?_map, List.getElem?_eq_getElem h, List.getD_eq_getElem?_getD, List.getElem?_eq_getElem h]; rfl
  · rw [List.getD_eq_getElem?_getD, List.getElem?_eq_none (by simp; omega), List.getD_eq_getElem?_getD, List.getElem?_eq_none (by omega)]; rfl
end Go.Proofs.Ytbbholdadgjelaa
/- place: Copies, Contains, Keeps -/
namespace Go.Proofs.Ytbbholdadgjelaa
open Go.RowKit
set_option linter.unusedVariables false
set_option maxRecDepth 20000
namespace Pl
def cop (W C s : Nat) : List Int := (List.range C).map fun j => ((1 + (s + j) % W : Nat) : Int)
def keep (W C S : Nat) (x : Int) : List Nat := (List.range S).filter fun s => decide (x ∈ cop W C s)
theorem cop_len (W C s : Nat) : (cop W C s).length = C := by simp [cop]
theorem cop_snoc (W C s : Nat) : cop W (C + 1) s = cop W C s ++ [((1 + (s + C) % W : Nat) : Int)] := by simp [cop, List.range_succ]
theorem keep_snoc (W C S : Nat) (x : Int) : keep W C (S + 1) x = keep W C S x ++ (if x ∈ cop W C S then [S] else []) := by
  unfold keep
  rw [List.range_succ, List.filter_append]
  by_cases h : x ∈ cop W C S <;> simp [h]
theorem keep_len (W C S : Nat) (x : Int) : (keep W C S x).length ≤ S := by
  unfold keep
  exact Nat.le_trans (List.length_filter_le _ _) (by simp)
end Pl
set_option maxHeartbeats 3200000 in
theorem copies_in (c : Cfg) (s : Nat) (W C : Nat) (w : World) (h : CfgOk w c) (hm : c.may = true) (hs : s < c.kn + 1) (hW : c.W = (W : Int)) (hC : c.C = (C : Int)) :
    Calls Try.prog 31 #[.agg #[.slice c.wa c.wn c.wc, .slice c.ka c.kn c.kc, .int .i64 c.W, .int .i64 c.C, .int .i64 c.S, .int .i64 c.B, .int .i64 c.L, .int .i64 c.H, .int .i64 c.F, .int .i64 c.P, .int .i64 c.J, .int .i64 c.N], .int .i64 (s : Int)] w (RetZ w (Pl.cop W C s)) := by
  obtain ⟨i0, hi, hz0, hz1, hz2⟩ := info_parts num_info
  have BX := Lib.hid (below_one w (.cells #[.slice c.wa c.wn c.wc, .slice c.ka c.kn c.kc, .int .i64 c.W, .int .i64 c.C, .int .i64 c.S, .int .i64 c.B, .int .i64 c.L, .int .i64 c.H, .int .i64 c.F, .int .i64 c.P, .int .i64 c.J, .int .i64 c.N] 25))
  have IN := Lib.hid (cfgIn_new w c w.heap.size 25 (0, 0) rfl)
  have CM := Lib.hid (has_any c s true _ (h.below BX.out) hm (decide_eq_true ⟨by omega, by omega⟩))
  have hk := may_kn hm h
  obtain ⟨-, -, hw, hc, -⟩ := may_parts hm
  rw [hW] at hw
  rw [hC, hW] at hc
  have H5 := Lib.hid (show W ≤ 5 ∧ C ≤ 3 from ⟨by omega, by omega⟩)
  have hW0 : ((W : Int) == 0) = false := by simp; omega
  have hW1 : 1 ≤ W := by omega
  have hC3 : C ≤ 3 := by omega
  have hs6 : s ≤ 5 := by omega
  have HW := Lib.hid hW; have HC := Lib.hid hC
  clear h hm hw hc hW hC
  go_enter Try.func31, Try.ntmps31
  go_wp2_with fail
  refine CM.out.mono ?_
  rintro e w2 ⟨rfl, hb2⟩
  have B2 := Lib.hid (BX.out.trans (hb2.mono BX.out.size))
  have I2 := Lib.hid (IN.out.below hb2)
  clear hb2 CM
  have hI := I2.out
  unfold CfgIn at hI
  obtain ⟨-, -, -, i3, -⟩ := hI
  rw [HC.out] at i3
  go_wp2_with fail
  go_loopw [5, 13] (fun ov iv wr => ∃ (j : Nat) (av : Option Addr) (cv : Nat), j ≤ C ∧ iv = .int .i64 j ∧ ov = .slice av j cv ∧ Hid (wr.ownsRow (w.heap.size + 1) 3 1 (.slice av j cv) j (numsV (Pl.cop W j s))) ∧ Hid (Below w2.heap.size w2 wr ∨ True) ∧ Hid (Below w.heap.size w wr ∧ CfgIn wr w.heap.size c)) (fun _ iv _ => C - (intOf iv).toNat)
  case atStart => exact ⟨0, none, 0, by omega, rfl, rfl, Lib.hid (World.ownsRow_nil _ _ _ _), Lib.hid (Or.inr trivial), Lib.hid ⟨B2.out, I2.out⟩⟩
  case round =>
    obtain ⟨j, av, cv, hj, rfl, rfl, hO, -, hB⟩ := hrel
    by_cases hlt : j < C
    · have hI := hB.out.2
      unfold CfgIn at hI
      obtain ⟨-, -, k2, -⟩ := hI
      rw [HW.out] at k2
      have d1 : decide ((j : Int) < (C : Int)) = true := decide_eq_true (by omega)
      obtain ⟨z, hz⟩ : ∃ z, (s + j) % W = z := ⟨_, rfl⟩
      have hzl : z < W := by rw [← hz]; exact Nat.mod_lt _ (by omega)
      have HZ := Lib.hid (show Pl.cop W (j + 1) s = Pl.cop W j s ++ [1 + (z : Int)] from by rw [Pl.cop_snoc, hz]; simp)
      have r1 : IntKind.i64.wrap ((s : Int) + (j : Int)) = (s : Int) + (j : Int) := by rw [IntWalk.i64_in _ (by omega)]
      have r2 : ((s : Int) + (j : Int)) % (W : Int) = (z : Int) := by rw [← hz]; simp
      have r3 : IntKind.i64.wrap (1 + (z : Int)) = 1 + (z : Int) := by rw [IntWalk.i64_in _ (by have := H5.out; omega)]
      have IH := Lib.hid hB.out.2
      clear hz
      go_wp2_with (at_builtin; refine wpList_append_any rfl (.tmp 16) (.tmp 24) 33 rfl (w.heap.size + 1) 3 i0 _ 1 8 Try.underlying33 hi hz0 hz1 hz2 rfl (by decide) _ j _ rfl (hO.out.alloc _) _ 1 1 [.int .i64 (1 + (z : Int))] rfl (some_none _) rfl (one_new _ _ _ _) (by simp [Value.oneCell']) (by unfold maxLen; omega) (by omega) (by have := lt_of_cell IH.out.1; simp; omega) ?_; intro a3 c3 w3 hown3 hb3 hnil3)
      have O3 := Lib.hid (show w3.ownsRow (w.heap.size + 1) 3 1 (.slice a3 (j + 1) c3) (j + 1) (numsV (Pl.cop W (j + 1) s)) from by rw [HZ.out]; unfold numsV at hown3 ⊢; rw [List.map_append]; exact hown3)
      have B3 := Lib.hid (show Below w.heap.size w w3 ∧ CfgIn w3 w.heap.size c from by
        have b1 : Below (w.heap.size + 1) wr w3 := ((Below.refl (w.heap.size + 1) wr).alloc (by have := lt_of_cell IH.out.1; omega) _).trans hb3
        exact ⟨hB.out.1.trans (b1.mono (by omega)), IH.out.of fun i => b1.cell (p := ⟨w.heap.size, i, none⟩) (by show w.heap.size < w.heap.size + 1; omega)⟩)
      clear hown3 hb3 hnil3 k2 IH
      go_roundw
      case rel => exact ⟨j + 1, a3, c3, by omega, by go_num, rfl, O3, Lib.hid (Or.inr trivial), B3⟩
      case measure => simp [intOf] <;> omega
    · obtain rfl : j = C := by omega
      have d1 : decide ((j : Int) < (j : Int)) = false := decide_eq_false (by omega)
      go_wp2_with fail
      go_ret
      refine ⟨av, cv, by rw [Pl.cop_len]; rfl, ?_, hB.out.1⟩
      rw [Pl.cop_len]
      have := hO.out
      exact ⟨this.1, this.2.imp id (fun ⟨g, cap, cur, hv, hge, r⟩ => ⟨g, cap, cur, hv, by omega, r⟩)⟩
theorem copies_out (c : Cfg) (s : Int) (w : World) (h : CfgOk w c) (hm : c.may = true) (hs : ¬ (0 ≤ s ∧ s < ((c.kn + 1 : Nat) : Int))) :
    Calls Try.prog 31 #[.agg #[.slice c.wa c.wn c.wc, .slice c.ka c.kn c.kc, .int .i64 c.W, .int .i64 c.C, .int .i64 c.S, .int .i64 c.B, .int .i64 c.L, .int .i64 c.H, .int .i64 c.F, .int .i64 c.P, .int .i64 c.J, .int .i64 c.N], .int .i64 s] w (RetZ w []) := by
  have BX := Lib.hid (below_one w (.cells #[.slice c.wa c.wn c.wc, .slice c.ka c.kn c.kc, .int .i64 c.W, .int .i64 c.C, .int .i64 c.S, .int .i64 c.B, .int .i64 c.L, .int .i64 c.H, .int .i64 c.F, .int .i64 c.P, .int .i64 c.J, .int .i64 c.N] 25))
  have CM := Lib.hid (has_any c s false _ (h.below BX.out) hm (decide_eq_false hs))
  clear h hm hs
  go_enter Try.func31, Try.ntmps31
  go_wp2_with fail
  refine CM.out.mono ?_
  rintro e w2 ⟨rfl, hb2⟩
  have B2 := Lib.hid (BX.out.trans (hb2.mono BX.out.size))
  clear hb2 CM
  go_wp2_with fail
  go_ret
  exact ⟨none, 0, rfl, World.ownsRow_nil _ _ _ _, B2.out⟩
theorem pindex_any (a : Option Addr) (n cap : Nat) (zs : List Int) (x : Int) (w : World) (h : HoldsI .i64 w a n zs) (hn : n ≤ 1000000) :
    Calls Try.prog 50 #[.slice a n cap, .int .i64 x] w fun e w' => e = .returned (.int .i64 (if x ∈ zs then (zs.idxOf x : Int) else -1)) ∧ w = w' := by
  have H := Lib.hid h
  have hl := h.1
  obtain ⟨R, hR⟩ : ∃ R : Int, (if x ∈ zs then (zs.idxOf x : Int) else -1) = R := ⟨_, rfl⟩
  rw [hR]
  have RY := Lib.hid (show ∀ j, j < n → zs.getD j 0 = x → (∀ k, k < j → zs.getD k 0 ≠ x) → R = (j : Int) from fun j hj he hno => by
    have hjl : j < zs.length := by omega
    have e0 : zs[j] = x := by rw [← he, List.getD_eq_getElem?_getD, List.getElem?_eq_getElem hjl]; rfl
    have hmem : x ∈ zs := by rw [← e0]; exact List.getElem_mem _
    rw [← hR, if_pos hmem]
    have hlt := List.idxOf_lt_length_of_mem hmem
    have hat := List.getElem_idxOf hlt
    rcases Nat.lt_trichotomy (zs.idxOf x) j with hh | hh | hh
    · exact absurd (by rw [List.getD_eq_getElem?_getD, List.getElem?_eq_getElem hlt]; exact hat) (hno _ hh)
    · rw [hh]
    · have h2 := List.not_of_lt_findIdx (p := (· == x)) (xs := zs) (i := j) hh
      rw [e0] at h2
      simp at h2)
  have RN := Lib.hid (show (∀ k, k < n → zs.getD k 0 ≠ x) → R = -1 from fun hno => by
    rw [← hR, if_neg]
    intro hmem
    obtain ⟨k, hk, he⟩ := List.getElem_of_mem hmem
    exact hno k (by omega) (by rw [List.getD_eq_getElem?_getD, List.getElem?_eq_getElem hk]; exact he))
  clear h hR
  go_enter Try.func50, Try.ntmps50
  go_wp2_with fail
  go_loop [8] (fun iv => ∃ j : Nat, j ≤ n ∧ iv = .int .i64 j ∧ Hid (∀ k, k < j → zs.getD k 0 ≠ x)) (fun iv => n - (intOf iv).toNat)
  case atStart => exact ⟨0, by omega, rfl, Lib.hid (fun k hk => by omega)⟩
  case round =>
    obtain ⟨j, hj, rfl, hno⟩ := hrel
    by_cases hlt : j < n
    · obtain ⟨b, o, rfl, hc⟩ := H.out.at (by omega)
      have e0 := hc j hlt
      have hry := RY.out j hlt
      obtain ⟨y, hy⟩ : ∃ y, zs.getD j 0 = y := ⟨_, rfl⟩
      have HY := Lib.hid hy
      rw [hy] at e0 hry
      clear hc hy
      by_cases he : y = x
      · have d1 : (x == y) = true := by simp [he]
        have hres := hry he hno.out
        clear hry he
        go_wp2_with fail
        go_ret
        exact ⟨rfl, rfl⟩
      · have d1 : (x == y) = false := by simp; exact fun h => he h.symm
        have NX := Lib.hid (show ∀ k, k < j + 1 → zs.getD k 0 ≠ x from fun k hk => by
          rcases Nat.lt_succ_iff_lt_or_eq.1 hk with e | e
          · exact hno.out k e
          · subst e; rw [HY.out]; exact he)
        clear hry he
        go_wp2_with fail
        go_round
        case rel => exact ⟨j + 1, by omega, by go_num, NX⟩
        case measure => simp [intOf]; omega
    · obtain rfl : j = n := by omega
      have hres := RN.out hno.out
      go_wp2_with fail
      go_ret
      exact ⟨rfl, rfl⟩
theorem contains_any (a : Option Addr) (n cap : Nat) (zs : List Int) (x : Int) (z : Bool) (w : World) (h : HoldsI .i64 w a n zs) (hn : n ≤ 1000000) (hz : decide (x ∈ zs) = z) :
    Calls Try.prog 30 #[.slice a n cap, .int .i64 x] w fun e w' => e = .returned (.bool z) ∧ w = w' := by
  have CI := pindex_any a n cap zs x w h hn
  obtain ⟨R, hR⟩ : ∃ R : Int, (if x ∈ zs then (zs.idxOf x : Int) else -1) = R := ⟨_, rfl⟩
  rw [hR] at CI
  have d1 : decide (R ≥ 0) = z := by
    rw [← hz, ← hR]
    by_cases hm : x ∈ zs
    · rw [if_pos hm, decide_eq_true hm]; exact decide_eq_true (by omega)
    · rw [if_neg hm, decide_eq_false hm]; rfl
  have C := Lib.hid CI
  clear CI hR hz h
  go_enter Try.func30, Try.ntmps30
  go_wp2_with fail
  refine C.out.mono ?_
  rintro e w' ⟨rfl, rfl⟩
  go_wp2_with fail
  go_ret
  exact ⟨rfl, rfl⟩
end Go.Proofs.Ytbbholdadgjelaa
/- place: Keeps, Words -/
namespace Go.Proofs.Ytbbholdadgjelaa
open Go.RowKit
set_option linter.unusedVariables false
set_option maxRecDepth 20000
set_option maxHeartbeats 6400000 in
theorem keeps_any (c : Cfg) (x : Int) (W C : Nat) (w : World) (h : CfgOk w c) (hm : c.may = true) (hW : c.W = (W : Int)) (hC : c.C = (C : Int)) :
    Calls Try.prog 11 #[.agg #[.slice c.wa c.wn c.wc, .slice c.ka c.kn c.kc, .int .i64 c.W, .int .i64 c.C, .int .i64 c.S, .int .i64 c.B, .int .i64 c.L, .int .i64 c.H, .int .i64 c.F, .int .i64 c.P, .int .i64 c.J, .int .i64 c.N], .int .i64 x] w (RetZ w (natsZ (Pl.keep W C (c.kn + 1) x))) := by
  obtain ⟨i0, hi, hz0, hz1, hz2⟩ := info_parts num_info
  have BX := Lib.hid (below_one w (.cells #[.slice c.wa c.wn c.wc, .slice c.ka c.kn c.kc, .int .i64 c.W, .int .i64 c.C, .int .i64 c.S, .int .i64 c.B, .int .i64 c.L, .int .i64 c.H, .int .i64 c.F, .int .i64 c.P, .int .i64 c.J, .int .i64 c.N] 25))
  have IN := Lib.hid (cfgIn_new w c w.heap.size 25 (0, 0) rfl)
  have OK := Lib.hid h
  have CM := Lib.hid (shards_any c _ (h.below BX.out) hm)
  have hk := may_kn hm h
  have HW := Lib.hid hW; have HC := Lib.hid hC; have HM := Lib.hid hm
  have HC3 := Lib.hid (show C ≤ 3 from by have := (may_parts hm).2.2.2.1; omega)
  obtain ⟨n, hn⟩ : ∃ n, c.kn + 1 = n := ⟨_, rfl⟩
  have HN := Lib.hid hn
  rw [hn] at CM
  rw [hn]
  have hn6 : n ≤ 6 := by omega
  clear h hm hW hC hn hk
  go_enter Try.func11, Try.ntmps11
  go_wp2_with fail
  refine CM.out.mono ?_
  rintro e w2 ⟨rfl, hb2⟩
  have B2 := Lib.hid (BX.out.trans (hb2.mono BX.out.size))
  have I2 := Lib.hid (IN.out.below hb2)
  clear hb2 CM
  go_wp2_with fail
  go_loopw [5, 9] (fun ov iv wr => ∃ (j : Nat) (K : List Nat) (av : Option Addr) (cv : Nat), j ≤ n ∧ K.length ≤ j ∧ iv = .int .i64 j ∧ ov = .slice av K.length cv ∧ Hid (K = Pl.keep W C j x) ∧ Hid (wr.ownsRow (w.heap.size + 1) 3 1 (.slice av K.length cv) K.length (numsV (natsZ K))) ∧ Hid (Below w.heap.size w wr ∧ CfgIn wr w.heap.size c)) (fun _ iv _ => n - (intOf iv).toNat)
  case atStart => exact ⟨0, [], none, 0, by omega, by simp, rfl, rfl, Lib.hid rfl, Lib.hid (World.ownsRow_nil _ _ _ _), Lib.hid ⟨B2.out, I2.out⟩⟩
  case round =>
    obtain ⟨j, K, av, cv, hj, hKl, rfl, rfl, hK, hO, hB⟩ := hrel
    by_cases hlt : j < n
    · have hI := hB.out.2
      unfold CfgIn at hI
      obtain ⟨i0', i1, i2, i3, i4, i5, i6, i7, i8, i9, i10, i11⟩ := hI
      have d1 : decide ((j : Int) < (n : Int)) = true := decide_eq_true (by omega)
      have CC := Lib.hid (copies_in c j W C wr (OK.out.below hB.out.1) HM.out (by have := HN.out; omega) HW.out HC.out)
      obtain ⟨L, hL⟩ : ∃ L, Pl.cop W C j = L := ⟨_, rfl⟩
      have LL := Lib.hid (show L.length ≤ 3 from by rw [← hL, Pl.cop_len]; exact HC3.out)
      obtain ⟨z, hz⟩ : ∃ z, decide (x ∈ L) = z := ⟨_, rfl⟩
      have HZ := Lib.hid hz
      have hks := Pl.keep_snoc W C j x
      rw [hL] at CC hks
      have KS := Lib.hid hks
      clear hL hz hks
      go_wp2_with fail
      refine CC.out.mono ?_
      rintro e w3 ⟨la, lc, rfl, hown, hb3⟩
      have CT := Lib.hid (contains_any la L.length lc L x z w3 (holdsZ_own hown) (by have := LL.out; omega) HZ.out)
      have O3 := Lib.hid (owns_below hO.out hb3)
      have B3 := Lib.hid (show Below w.heap.size w w3 ∧ CfgIn w3 w.heap.size c from ⟨hB.out.1.trans (hb3.mono hB.out.1.size), hB.out.2.below hb3⟩)
      clear hown hb3 CC i0' i1 i2 i3 i4 i5 i6 i7 i8 i9 i10 i11
      go_wp2_with fail
      refine CT.out.mono ?_
      rintro e w' ⟨rfl, rfl⟩
      clear CT
      cases z
      · have K2 := Lib.hid (show K = Pl.keep W C (j + 1) x from by rw [KS.out, if_neg (of_decide_eq_false HZ.out), List.append_nil]; exact hK.out)
        go_wp2_with fail
        go_roundw
        case rel => exact ⟨j + 1, K, av, cv, by omega, by omega, by go_num, rfl, K2, O3, B3⟩
        case measure => simp [intOf] <;> omega
      · have K2 := Lib.hid (show K ++ [j] = Pl.keep W C (j + 1) x from by rw [KS.out, if_pos (of_decide_eq_true HZ.out), ← hK.out])
        go_wp2_with (at_builtin; refine wpList_append_any rfl (.tmp 17) (.tmp 19) 33 rfl (w.heap.size + 1) 3 i0 _ 1 8 Try.underlying33 hi hz0 hz1 hz2 rfl (by decide) _ K.length _ rfl (O3.out.alloc _) _ 1 1 [.int .i64 (j : Int)] rfl (some_none _) rfl (one_new _ _ _ _) (by simp [Value.oneCell']) (by unfold maxLen; omega) (by omega) (by have := lt_of_cell B3.out.2.1; simp; omega) ?_; intro a5 c5 w5 hown5 hb5 hnil5)
        have O5 := Lib.hid (show w5.ownsRow (w.heap.size + 1) 3 1 (.slice a5 (K ++ [j]).length c5) (K ++ [j]).length (numsV (natsZ (K ++ [j]))) from by rw [List.length_append]; unfold numsV natsZ at hown5 ⊢; rw [List.map_append, List.map_append]; exact hown5)
        have B5 := Lib.hid (show Below w.heap.size w w5 ∧ CfgIn w5 w.heap.size c from by
          have b1 : Below (w.heap.size + 1) w3 w5 := ((Below.refl (w.heap.size + 1) w3).alloc (by have := lt_of_cell B3.out.2.1; omega) _).trans hb5
          exact ⟨B3.out.1.trans (b1.mono (by omega)), B3.out.2.of fun i => b1.cell (p := ⟨w.heap.size, i, none⟩) (by show w.heap.size < w.heap.size + 1; omega)⟩)
        clear hown5 hb5 hnil5
        go_roundw
        case rel => exact ⟨j + 1, K ++ [j], a5, c5, by omega, by simp; omega, by go_num, by simp, K2, O5, B5⟩
        case measure => simp [intOf] <;> omega
    · obtain rfl : j = n := by omega
      have d1 : decide ((j : Int) < (j : Int)) = false := decide_eq_false (by omega)
      go_wp2_with fail
      go_ret
      refine ⟨av, cv, by rw [← hK.out, natsZ_len]; rfl, ?_, hB.out.1⟩
      rw [← hK.out, natsZ_len]
      have := hO.out
      exact ⟨this.1, this.2.imp id (fun ⟨g, cap, cur, hv, hge, r⟩ => ⟨g, cap, cur, hv, by omega, r⟩)⟩
theorem pwords_any (c : Cfg) (s k : Nat) (zs : List Tx) (w : World) (h : CfgOk w c) (hm : c.may = true) (hs : s < c.kn + 1) (hz : sliceS c.ks c.ws s = zs) (hk : zs.length = k) :
    Calls Try.prog 19 #[.agg #[.slice c.wa c.wn c.wc, .slice c.ka c.kn c.kc, .int .i64 c.W, .int .i64 c.C, .int .i64 c.S, .int .i64 c.B, .int .i64 c.L, .int .i64 c.H, .int .i64 c.F, .int .i64 c.P, .int .i64 c.J, .int .i64 c.N], .int .i64 (s : Int)] w fun e w' => ∃ a' c', e = .returned (.slice a' k c') ∧ LstP w' a' k c' zs ∧ Below w.heap.size w w' := by
  have BX := Lib.hid (below_one w (.cells #[.slice c.wa c.wn c.wc, .slice c.ka c.kn c.kc, .int .i64 c.W, .int .i64 c.C, .int .i64 c.S, .int .i64 c.B, .int .i64 c.L, .int .i64 c.H, .int .i64 c.F, .int .i64 c.P, .int .i64 c.J, .int .i64 c.N] 25))
  have IN := Lib.hid (cfgIn_new w c w.heap.size 25 (0, 0) rfl)
  have ok := h.below BX.out
  have hkn := may_kn hm h
  have hwn : c.wn ≤ 60 := by
    have := (goodV_zero (may_parts hm).1).1
    have := h.1.len
    omega
  have CS := Lib.hid (sliceP_lst c.ka c.kn c.kc c.ks c.wa c.wn c.wc c.ws zs s k _ ok.2.2.2.2.2.1 ok.1 (by omega) (by omega) (by omega) ok.2.2.2.2.1 hz hk)
  clear ok h hm hs hz hk
  go_enter Try.func19, Try.ntmps19
  go_wp2_with fail
  refine CS.out.mono ?_
  rintro e w2 ⟨a', c', rfl, hl, hb⟩
  have B2 := Lib.hid (BX.out.trans (hb.mono BX.out.size))
  have L2 := Lib.hid hl
  clear hb hl
  go_wp2_with fail
  go_ret
  exact ⟨a', c', rfl, L2.out, B2.out⟩
end Go.Proofs.Ytbbholdadgjelaa
/- place: awake -/
namespace Go.Proofs.Ytbbholdadgjelaa
open Go.RowKit
set_option linter.unusedVariables false
set_option maxRecDepth 20000
abbrev plE : Tx := { data := #[] }
abbrev cfg0 (B : Nat) : Cfg := ⟨none, 0, 0, some ⟨B, 0, none⟩, 2, 2, 3, 2, 1, 2, 5, 3, 1, 4, 0, 8, [], [(2, plE), (4, plE)]⟩
abbrev cfgE : Cfg := ⟨none, 0, 0, none, 0, 0, 0, 0, 0, 0, 0, 0, 0, 0, 0, 0, [], []⟩
theorem plE_len : lenS plE = 0 := by decide
theorem good_nilV : goodV [] = 0 := by decide
theorem good_keys0 : goodK [(2, plE), (4, plE)] = 0 := goodK_of (by decide) (by
  intro k hk
  simp at hk
  rcases hk with rfl | rfl <;> simp [mayK, plE_len]) (by simp [SortedK, ordK_lt])
theorem good_nilK : goodK [] = 0 := goodK_of (by decide) (by simp) (by simp [SortedK])
theorem may_cfg0 (B : Nat) : (cfg0 B).may = true := by
  simp [Cfg.may, good_nilV, good_keys0]
theorem may_cfgE : cfgE.may = false := by
  simp [Cfg.may]
theorem ok_cfgE (w : World) : CfgOk w cfgE := ⟨HoldsT.nil _ _, fun _ => ⟨rfl, rfl⟩, Nat.le_refl _, by simp, by simp, ⟨rfl, fun h => by simp at h⟩, by simp, by simp⟩
theorem ok_cfg0 (w : World) : CfgOk (w.alloc (.cells #[.int .i64 2, .string { data := #[] }, .int .i64 4, .string { data := #[] }] 56)) (cfg0 w.heap.size) := by
  refine ⟨HoldsT.nil _ _, fun _ => ⟨rfl, rfl⟩, Nat.le_refl _, by simp, by simp, ⟨rfl, fun _ => ⟨w.heap.size, 0, rfl, fun i hi => ?_⟩⟩, by simp, ?_⟩
  · have hc : i = 0 ∨ i = 1 := by
      have : i < 2 := hi
      omega
    rcases hc with rfl | rfl <;> simp
  · intro k hk
    simp at hk
    rcases hk with rfl | rfl <;> (unfold KeyOk i64okK; decide)
theorem two_ints (w : World) (x y : Int) (e : TypeId) (fr : Nat × Nat) : HoldsI .i64 (w.alloc (.cells #[.int .i64 x, .int .i64 y] e fr)) (some ⟨w.heap.size, 0, none⟩) 2 [x, y] := by
  refine ⟨rfl, fun _ => ⟨w.heap.size, 0, rfl, fun i hi => ?_⟩⟩
  have hc : i = 0 ∨ i = 1 := by omega
  rcases hc with rfl | rfl <;> (rw [Nat.zero_add, World.cell?_alloc_mark]; rfl)
end Go.Proofs.Ytbbholdadgjelaa
/- pack: a node as it is read -/
namespace Go.Proofs.Ytbbholdadgjelaa
open Go.RowKit
set_option linter.unusedVariables false
set_option maxRecDepth 20000
theorem pedge_info : (Try.prog.info? 129).map (fun i => (i.zero, i.size, i.bytes)) = some (some (.agg #[.int .i64 0, .int .i64 0]), 2, 16) := by kernel_rfl
/-- an edge as it is read: its label, where it leads -/
abbrev PE := Nat × Nat
def peV : List PE → List Value
  | [] => []
  | x :: l => .int .i64 (x.1 : Int) :: .int .i64 (x.2 : Int) :: peV l
theorem peV_len : ∀ l : List PE, (peV l).length = l.length * 2
  | [] => rfl
  | x :: l => by simp [peV, peV_len l]; omega
theorem peV_app : ∀ k l : List PE, peV (k ++ l) = peV k ++ peV l
  | [], l => rfl
  | x :: k, l => by simp [peV, peV_app k l]
theorem peV_one : ∀ (l : List PE), ∀ u ∈ peV l, u.oneCell' = true
  | [], u, h => by simp [peV] at h
  | x :: l, u, h => by
    simp only [peV, List.mem_cons] at h
    rcases h with h | h | h
    · subst h; rfl
    · subst h; rfl
    · exact peV_one l u h
theorem peV_at : ∀ (l : List PE) (i : Nat), i < l.length → (peV l)[i * 2]? = some (.int .i64 ((l.getD i (0, 0)).1 : Int)) ∧ (peV l)[i * 2 + 1]? = some (.int .i64 ((l.getD i (0, 0)).2 : Int))
  | [], i, h => by simp at h
  | x :: l, 0, _ => by simp [peV]
  | x :: l, i + 1, h => by
    have ih := peV_at l i (by simpa using h)
    have e1 : (i + 1) * 2 = i * 2 + 1 + 1 := by omega
    rw [e1]
    simpa [peV] using ih
/-- a node as it is read -/
structure PN where
  fin : Bool
  es : List PE
/-- so many edges, read on from here: what was read, how far, whether something was missing -/
def rdE (bs : List Nat) (n : Nat) : Nat → Nat → Bool → List PE × Nat × Bool
  | 0, at_, bad => ([], at_, bad)
  | k + 1, at_, bad =>
    let a1 := atR n at_ 4 bad
    let b1 := !okR n at_ 4 bad
    let a2 := atR n a1 2 b1
    let b2 := !okR n a1 2 b1
    let x : PE := (numR bs n at_ 4 bad, numR bs n a1 2 b1)
    if b2 then ([x], a2, true) else (x :: (rdE bs n k a2 false).1, (rdE bs n k a2 false).2)
def rdN (bs : List Nat) (n at_ : Nat) (bad : Bool) : PN × Nat × Bool :=
  let a1 := atR n at_ 1 bad
  let b1 := !okR n at_ 1 bad
  let a2 := atR n a1 2 b1
  let b2 := !okR n a1 2 b1
  let r := rdE bs n (numR bs n a1 2 b1) a2 b2
  (⟨decide (numR bs n at_ 1 bad = 1), r.1⟩, r.2)
theorem atR_le {n at_ s : Nat} {bad : Bool} (h : at_ ≤ n) : atR n at_ s bad ≤ n := by
  unfold atR
  split
  · rename_i h1
    unfold okR at h1
    simp only [Bool.and_eq_true, decide_eq_true_eq] at h1
    exact h1.2
  · exact h
theorem okR_bad {n at_ s : Nat} : okR n at_ s true = false := rfl
/-- the state of the loop over a node's edges -/
structure LN (w0 : World) (r : Nat) (a : Option Addr) (n cap : Nat) (bs : List Nat) (at_ : Nat) (bad : Bool) (M B : Nat) (fin : Bool) (es : List PE) (ea : Option Addr) (ec : Nat) (w : World) : Prop where
  rd : RdM r a n cap bs at_ bad w
  c0 : w.cell? ⟨M, 0, none⟩ = some (.bool fin)
  c1 : w.cell? ⟨M, 1, none⟩ = some (.slice ea es.length ec)
  f1 : w.frozen? ⟨M, 1, none⟩ = false
  o : w.ownsRow w0.heap.size 129 2 (.slice ea es.length ec) es.length (peV es)
  ne : ∀ k, ea = some ⟨k, 0, none⟩ → k ≠ M ∧ k ≠ B
  M0 : w0.heap.size ≤ M
  k0 : w.cell? ⟨B, 0, none⟩ = some (.bool false)
  k1 : w.cell? ⟨B, 1, none⟩ = some (.slice none 0 0)
  kf : ∀ i, w.frozen? ⟨B, i, none⟩ = false
  kh : w.heap[B]? = some (.cells #[.bool false, .slice none 0 0] 104 (0, 0))
  B0 : w0.heap.size ≤ B
  MB : M ≠ B
  t : Turn (fun k => k = r) w0 w
end Go.Proofs.Ytbbholdadgjelaa
/- pack: readNode -/
namespace Go.Proofs.Ytbbholdadgjelaa
open Go.RowKit
set_option linter.unusedVariables false
set_option maxRecDepth 20000
theorem LN.below {w0 : World} {r : Nat} {a : Option Addr} {n cap : Nat} {bs : List Nat} {at_ : Nat} {bad : Bool} {M B : Nat} {fin : Bool} {es : List PE} {ea : Option Addr} {ec : Nat} {w w' : World} (h : LN w0 r a n cap bs at_ bad M B fin es ea ec w) (hb : Below w.heap.size w w') : LN w0 r a n cap bs at_ bad M B fin es ea ec w' := by
  have lm := lt_of_cell h.c0
  exact ⟨h.rd.turn (S := fun _ => False) (Turn.of_below hb) (fun x => x) (fun q o e x => x), (hb.cell (p := ⟨M, 0, none⟩) lm).trans h.c0, (hb.cell (p := ⟨M, 1, none⟩) lm).trans h.c1, (hb.frozen (p := ⟨M, 1, none⟩) lm).trans h.f1, owns_below h.o hb, h.ne, h.M0, (hb.cell (p := ⟨B, 0, none⟩) (lt_of_cell h.k0)).trans h.k0, (hb.cell (p := ⟨B, 1, none⟩) (lt_of_cell h.k0)).trans h.k1, fun i => (hb.frozen (p := ⟨B, i, none⟩) (lt_of_cell h.k0)).trans (h.kf i), (hb.block B (lt_of_cell h.k0)).trans h.kh, h.B0, h.MB, h.t.trans (Turn.of_below hb)⟩
theorem LN.num {w0 : World} {r : Nat} {a : Option Addr} {n cap : Nat} {bs : List Nat} {at_ at2 : Nat} {bad bad2 : Bool} {M B : Nat} {fin : Bool} {es : List PE} {ea : Option Addr} {ec : Nat} {w w' : World} (h : LN w0 r a n cap bs at_ bad M B fin es ea ec w) (hr : r < w0.heap.size) (m : RdM r a n cap bs at2 bad2 w') (t : Turn (fun k => k = r) w w') : LN w0 r a n cap bs at2 bad2 M B fin es ea ec w' := by
  have lm := lt_of_cell h.c0
  have hM : ¬ M = r := by have := h.M0; omega
  have hB : ¬ B = r := by have := h.B0; omega
  have lb := lt_of_cell h.k0
  refine ⟨m, (t.cell lm hM).trans h.c0, (t.cell lm hM).trans h.c1, (t.frozen lm hM).trans h.f1, ?_, h.ne, h.M0, (t.cell lb hB).trans h.k0, (t.cell lb hB).trans h.k1, fun i => (t.frozen lb hB).trans (h.kf i), (t.block B lb hB).trans h.kh, h.B0, h.MB, h.t.trans t⟩
  rcases h.o.2 with h1 | ⟨g, cap', cur, hv, hge, hh, x⟩
  · exact ⟨h.o.1, .inl h1⟩
  · have hl : g < w.heap.size := by
      rcases Nat.lt_or_ge g w.heap.size with h2 | h2
      · exact h2
      · rw [Array.getElem?_eq_none h2] at hh; cases hh
    exact ⟨h.o.1, .inr ⟨g, cap', cur, hv, hge, (t.block g hl (by omega)).trans hh, x⟩⟩
theorem LN.app {w0 : World} {r : Nat} {a : Option Addr} {n cap : Nat} {bs : List Nat} {at_ : Nat} {bad : Bool} {M B : Nat} {fin : Bool} {es : List PE} {ea : Option Addr} {ec g c : Nat} {x : PE} {w w8 : World} {ob : Obj} (h : LN w0 r a n cap bs at_ bad M B fin es ea ec w) (hr : r < w0.heap.size) (ha : ∀ q o, a = some ⟨q, o, none⟩ → q < w0.heap.size)
    (hown : w8.ownsRow w0.heap.size 129 2 (.slice (some ⟨g, 0, none⟩) (es.length + 1) c) (es.length + 1) (peV es ++ [.int .i64 (x.1 : Int), .int .i64 (x.2 : Int)])) (hg : (w.alloc ob).grownBy w8 (Value.slice ea es.length ec).ownBlock) (hat : (Value.slice ea es.length ec).ownBlock = some g ∨ g = (w.alloc ob).heap.size) :
    LN w0 r a n cap bs at_ bad M B fin (es ++ [x]) (some ⟨g, 0, none⟩) c (w8.setCell ⟨M, 1, none⟩ (.slice (some ⟨g, 0, none⟩) (es.length + 1) c)) := by
  have lm := lt_of_cell h.c0
  have hz : (w.alloc ob).heap.size = w.heap.size + 1 := by simp
  have ob0 : ∀ k, some k = (Value.slice ea es.length ec).ownBlock → w0.heap.size ≤ k ∧ k ≠ M ∧ k ≠ B := fun k e => ⟨(h.o.lt k e.symm).1, h.ne k (own_at9 h.o e.symm)⟩
  have lb := lt_of_cell h.k0
  have bM := h.MB
  have gM : g ≠ M := by
    rcases hat with e | e
    · exact (ob0 g e.symm).2.1
    · omega
  have gB : g ≠ B := by
    rcases hat with e | e
    · exact (ob0 g e.symm).2.2
    · omega
  have cb : ∀ i, w8.cell? ⟨B, i, none⟩ = w.cell? ⟨B, i, none⟩ := fun i => (hg.cell_far ⟨B, i, none⟩ (by rw [hz]; exact Nat.lt_succ_of_lt lb) (fun e => (ob0 B e).2.2 rfl)).trans (cell_alloc_old lb)
  have fb : ∀ i, w8.frozen? ⟨B, i, none⟩ = false := fun i => (hg.frozen_far ⟨B, i, none⟩ (by rw [hz]; exact Nat.lt_succ_of_lt lb) (fun e => (ob0 B e).2.2 rfl)).trans (((below_one w ob).frozen (p := ⟨B, i, none⟩) lb).trans (h.kf i))
  have t1 : Turn (fun k => w0.heap.size ≤ k) w w8 := (Turn.alloc _ w ob).trans ⟨hg.os, hg.tape, hg.output, hg.size, fun k hk hn => hg.block k hk (fun e => hn (ob0 k e).1)⟩
  have cm : ∀ i, w8.cell? ⟨M, i, none⟩ = w.cell? ⟨M, i, none⟩ := fun i => (hg.cell_far ⟨M, i, none⟩ (by rw [hz]; exact Nat.lt_succ_of_lt lm) (fun e => (ob0 M e).2.1 rfl)).trans (cell_alloc_old lm)
  have fm : w8.frozen? ⟨M, 1, none⟩ = false := (hg.frozen_far ⟨M, 1, none⟩ (by rw [hz]; exact Nat.lt_succ_of_lt lm) (fun e => (ob0 M e).2.1 rfl)).trans (((below_one w ob).frozen (p := ⟨M, 1, none⟩) lm).trans h.f1)
  have t2 : Turn (fun k => w0.heap.size ≤ k) w (w8.setCell ⟨M, 1, none⟩ (.slice (some ⟨g, 0, none⟩) (es.length + 1) c)) := t1.trans (Turn.setCell h.M0)
  have el : (es ++ [x]).length = es.length + 1 := by rw [List.length_append]; rfl
  refine ⟨h.rd.turn t2 (by omega) (fun q o e => by have := ha q o e; omega), (cset_ne (by omega)).trans ((cm 0).trans h.c0), ?_, fset_any.trans fm, ?_, fun k e => by injection e with e; injection e with e; exact ⟨by omega, by omega⟩, h.M0, (cset_far bM).trans ((cb 0).trans h.k0), (cset_far bM).trans ((cb 1).trans h.k1), fun i => fset_any.trans (fb i), (Below.heap_setCell _ _ _ _ (show B ≠ M from fun e => bM e.symm)).trans ((hg.block B (by rw [hz]; exact Nat.lt_succ_of_lt lb) (fun e => (ob0 B e).2.2 rfl)).trans ((Below.heap_alloc w ob B lb).trans h.kh)), h.B0, h.MB, ⟨t2.os.trans h.t.os, t2.tape.trans h.t.tape, t2.output.trans h.t.output, Nat.le_trans h.t.size t2.size, fun k hk hn => (t2.block k (Nat.lt_of_lt_of_le hk h.t.size) (by omega)).trans (h.t.block k hk hn)⟩⟩
  · rw [el]; exact cset_at ((cm 1).trans h.c1)
  · rw [el, peV_app]
    exact gowns_block hown (fun q e => by
      injection e with e; injection e with e
      subst e
      exact Below.heap_setCell _ _ _ _ gM)
theorem rdNum9 (s : Nat) (si : Int) (hsi : si = (s : Int)) (h1 : 1 ≤ s) (h4 : s ≤ 4) (v at2 : Nat) (bad2 : Bool) {w0 w : World} {r : Nat} {a : Option Addr} {n cap : Nat} {bs : List Nat} {at_ : Nat} {bad : Bool} {M B : Nat} {fin : Bool} {es : List PE} {ea : Option Addr} {ec : Nat} (h : LN w0 r a n cap bs at_ bad M B fin es ea ec w) (hr : r < w0.heap.size) (hn : n ≤ 1048576) (hat : at_ ≤ n) (hv : numR bs n at_ s bad = v) (h2 : atR n at_ s bad = at2) (hb : (!okR n at_ s bad) = bad2) :
    Calls Try.prog 56 #[.pointer (some ⟨r, 0, none⟩), .int .i64 si] w fun e w' => e = .returned (.int .i64 (v : Int)) ∧ LN w0 r a n cap bs at2 bad2 M B fin es ea ec w' := by
  subst hsi hv h2 hb
  exact (rdNum_any r a n cap bs at_ bad s w h.rd hn hat h1 h4).mono fun e w' ⟨e1, m, t⟩ => ⟨e1, h.num hr m t⟩
end Go.Proofs.Ytbbholdadgjelaa
/- pack: readNode, its walk -/
namespace Go.Proofs.Ytbbholdadgjelaa
open Go.RowKit
set_option linter.unusedVariables false
set_option maxRecDepth 20000
theorem rdE_succ (bs : List Nat) (n k at_ : Nat) (bad : Bool) : rdE bs n (k + 1) at_ bad = (let a1 := atR n at_ 4 bad; let b1 := !okR n at_ 4 bad; let a2 := atR n a1 2 b1; let b2 := !okR n a1 2 b1; let x : PE := (numR bs n at_ 4 bad, numR bs n a1 2 b1); if b2 then ([x], a2, true) else (x :: (rdE bs n k a2 false).1, (rdE bs n k a2 false).2)) := rfl
theorem LN.kept {w0 : World} {r : Nat} {a : Option Addr} {n cap : Nat} {bs : List Nat} {at_ : Nat} {bad : Bool} {M B : Nat} {fin : Bool} {es : List PE} {ea : Option Addr} {ec : Nat} {w w8 : World} {ob : Obj} (h : LN w0 r a n cap bs at_ bad M B fin es ea ec w) (hg : (w.alloc ob).grownBy w8 (Value.slice ea es.length ec).ownBlock) : w8.cell? ⟨M, 1, none⟩ = some (.slice ea es.length ec) ∧ w8.frozen? ⟨M, 1, none⟩ = false := by
  have lm := lt_of_cell h.c0
  have hz : (w.alloc ob).heap.size = w.heap.size + 1 := by simp
  have ne : some M ≠ (Value.slice ea es.length ec).ownBlock := fun e => (h.ne M (own_at9 h.o e.symm)).1 rfl
  exact ⟨(hg.cell_far ⟨M, 1, none⟩ (by rw [hz]; exact Nat.lt_succ_of_lt lm) ne).trans ((cell_alloc_old lm).trans h.c1), (hg.frozen_far ⟨M, 1, none⟩ (by rw [hz]; exact Nat.lt_succ_of_lt lm) ne).trans (((below_one w ob).frozen (p := ⟨M, 1, none⟩) lm).trans h.f1)⟩
def RdP (r : Nat) (a : Option Addr) (n cap : Nat) (bs : List Nat) (x : PN × Nat × Bool) (w : World) (e : Ending) (w' : World) : Prop :=
  ∃ ea ec, e = .returned (.agg #[.bool x.1.fin, .slice ea x.1.es.length ec]) ∧ RdM r a n cap bs x.2.1 x.2.2 w' ∧ w'.ownsRow w.heap.size 129 2 (.slice ea x.1.es.length ec) x.1.es.length (peV x.1.es) ∧ Turn (fun k => k = r) w w'
theorem LN.fin {w0 : World} {r : Nat} {a : Option Addr} {n cap : Nat} {bs : List Nat} {at_ : Nat} {bad : Bool} {M B : Nat} {fin : Bool} {es : List PE} {ea : Option Addr} {ec : Nat} {w : World} (h : LN w0 r a n cap bs at_ bad M B fin es ea ec w) (hr : r < w0.heap.size) (ha : ∀ q o, a = some ⟨q, o, none⟩ → q < w0.heap.size) (u v : Value) :
    RdM r a n cap bs at_ bad ((w.setCell ⟨B, 0, none⟩ u).setCell ⟨B, 1, none⟩ v) ∧ ((w.setCell ⟨B, 0, none⟩ u).setCell ⟨B, 1, none⟩ v).ownsRow w0.heap.size 129 2 (.slice ea es.length ec) es.length (peV es) ∧ Turn (fun k => k = r) w0 ((w.setCell ⟨B, 0, none⟩ u).setCell ⟨B, 1, none⟩ v) ∧ ((w.setCell ⟨B, 0, none⟩ u).setCell ⟨B, 1, none⟩ v).heap[B]? = some (.cells #[u, v] 104 (0, 0)) := by
  have t2 : Turn (fun k => w0.heap.size ≤ k) w ((w.setCell ⟨B, 0, none⟩ u).setCell ⟨B, 1, none⟩ v) := (Turn.setCell h.B0).trans (Turn.setCell h.B0)
  refine ⟨h.rd.turn t2 (by omega) (fun q o e => by have := ha q o e; omega), gowns_block h.o (fun q e => ?_), ⟨t2.os.trans h.t.os, t2.tape.trans h.t.tape, t2.output.trans h.t.output, Nat.le_trans h.t.size t2.size, fun k hk hn => (t2.block k (Nat.lt_of_lt_of_le hk h.t.size) (by omega)).trans (h.t.block k hk hn)⟩, heap_setCell_same _ B 1 _ _ v (heap_setCell_same w B 0 _ _ u h.kh)⟩
  have hq := (h.ne q e).2
  exact (Below.heap_setCell _ _ _ _ hq).trans (Below.heap_setCell _ _ _ _ hq)
set_option maxHeartbeats 6400000 in
set_option maxRecDepth 100000 in
theorem readNode_any (r : Nat) (a : Option Addr) (n cap : Nat) (bs : List Nat) (at_ : Nat) (bad : Bool) (w : World) (m : RdM r a n cap bs at_ bad w) (hn : n ≤ 1048576) (hat : at_ ≤ n) (hr : r < w.heap.size) (ha : ∀ q o, a = some ⟨q, o, none⟩ → q < w.heap.size) (hbs : ∀ b ∈ bs, b < 256) (hlen : bs.length = n) :
    Calls Try.prog 57 #[.pointer (some ⟨r, 0, none⟩)] w (RdP r a n cap bs (rdN bs n at_ bad) w) := by
  obtain ⟨i0, hi, hz0, hz1, hz2⟩ := info_parts pedge_info
  have B0 := Lib.hid (below_one w (.cells #[.bool false, .slice none 0 0] 104))
  have M0 := Lib.hid (show RdM r a n cap bs at_ bad (w.alloc (.cells #[.bool false, .slice none 0 0] 104)) from m.turn (S := fun _ => False) (Turn.of_below B0.out) (fun x => x) (fun q o e x => x))
  obtain ⟨v1, hv1⟩ : ∃ v, numR bs n at_ 1 bad = v := ⟨_, rfl⟩
  obtain ⟨a1, ha1⟩ : ∃ v, atR n at_ 1 bad = v := ⟨_, rfl⟩
  obtain ⟨b1, hb1⟩ : ∃ v, (!okR n at_ 1 bad) = v := ⟨_, rfl⟩
  have C1 := Lib.hid (rdNum_any r a n cap bs at_ bad 1 _ M0.out hn hat (by omega) (by omega))
  rw [hv1, ha1, hb1, show ((1 : Nat) : Int) = 1 from rfl] at C1
  have la1 : a1 ≤ n := ha1 ▸ atR_le hat
  obtain ⟨fin, hfin⟩ : ∃ f, ((v1 : Int) == 1) = f := ⟨_, rfl⟩
  have HFIN := Lib.hid (show decide (v1 = 1) = fin from by rw [← hfin]; by_cases h : v1 = 1 <;> simp [h]; omega)
  obtain ⟨v2, hv2⟩ : ∃ v, numR bs n a1 2 b1 = v := ⟨_, rfl⟩
  obtain ⟨a2, ha2⟩ : ∃ v, atR n a1 2 b1 = v := ⟨_, rfl⟩
  obtain ⟨b2, hb2⟩ : ∃ v, (!okR n a1 2 b1) = v := ⟨_, rfl⟩
  have la2 : a2 ≤ n := ha2 ▸ atR_le la1
  have v2b : v2 < 65536 := by rw [← hv2]; exact numR_lt bs n a1 2 b1 hbs hlen
  obtain ⟨R, hR⟩ : ∃ x, rdE bs n v2 a2 b2 = x := ⟨_, rfl⟩
  have HRD := Lib.hid (show rdN bs n at_ bad = (⟨fin, R.1⟩, R.2) from by
    unfold rdN
    simp only [hv1, ha1, hb1, hv2, ha2, hb2, hR, HFIN.out])
  rw [HRD.out]
  have RR := Lib.hid hR
  have HR := Lib.hid hr; have HA := Lib.hid ha
  have E2 := Lib.hid (And.intro hv2 (And.intro ha2 hb2))
  have CB := Lib.hid (show (w.alloc (.cells #[.bool false, .slice none 0 0] 104)).cell? ⟨w.heap.size, 0, none⟩ = some (.bool false) ∧ (w.alloc (.cells #[.bool false, .slice none 0 0] 104)).cell? ⟨w.heap.size, 1, none⟩ = some (.slice none 0 0) ∧ ∀ i, (w.alloc (.cells #[.bool false, .slice none 0 0] 104)).frozen? ⟨w.heap.size, i, none⟩ = false from ⟨by rw [cell_alloc rfl]; rfl, by rw [cell_alloc rfl]; rfl, fun i => frozen_alloc rfl⟩)
  clear m hr ha hv1 ha1 hb1 hv2 ha2 hb2 hR hbs hlen HRD
  go_enter Try.func57, Try.ntmps57
  go_wp2_with fail
  with_reducible refine C1.out.mono ?_
  rintro e w2 ⟨rfl, m2, t2⟩
  have L3 := Lib.hid (show LN w r a n cap bs a1 b1 w2.heap.size w.heap.size fin [] none 0 (w2.alloc (.cells #[.bool fin, .slice none 0 0] 104)) from by
    have hz := t2.size
    have hz0 : (w.alloc (.cells #[.bool false, .slice none 0 0] 104)).heap.size = w.heap.size + 1 := by simp
    have hB : ¬ w.heap.size = r := by have := HR.out; omega
    have lB : w.heap.size < (w.alloc (.cells #[.bool false, .slice none 0 0] 104)).heap.size := by omega
    have b3 := below_one w2 (.cells #[.bool fin, .slice none 0 0] 104)
    have lB2 : w.heap.size < w2.heap.size := by omega
    exact ⟨m2.turn (S := fun _ => False) (Turn.of_below b3) (fun x => x) (fun q o e x => x), by rw [cell_alloc rfl]; rfl, by rw [cell_alloc rfl]; rfl, frozen_alloc rfl, World.ownsRow_nil _ _ _ _, fun k e => (by cases e), by omega,
      (b3.cell (p := ⟨w.heap.size, 0, none⟩) lB2).trans ((t2.cell lB hB).trans CB.out.1), (b3.cell (p := ⟨w.heap.size, 1, none⟩) lB2).trans ((t2.cell lB hB).trans CB.out.2.1), fun i => (b3.frozen (p := ⟨w.heap.size, i, none⟩) lB2).trans ((t2.frozen lB hB).trans (CB.out.2.2 i)), (b3.block w.heap.size lB2).trans ((t2.block w.heap.size lB hB).trans (heap_alloc_new w _)), Nat.le_refl _, by omega, ((Turn.of_below B0.out).trans t2).trans (Turn.of_below b3)⟩)
  have C2 := Lib.hid (rdNum9 2 2 rfl (by omega) (by omega) v2 a2 b2 L3.out HR.out hn la1 E2.out.1 E2.out.2.1 E2.out.2.2)
  clear m2 t2 C1 M0 B0 CB
  go_wp2_with fail
  with_reducible refine C2.out.mono ?_
  rintro e w4 ⟨rfl, hL4⟩
  have L4 := Lib.hid hL4
  generalize w2.heap.size = M at *
  clear hL4 L3 C2
  go_wp2_with fail
  go_loopw [12] (fun iv wr => ∃ (i : Nat) (es : List PE) (ea : Option Addr) (ec at3 : Nat) (bad3 : Bool), i ≤ v2 ∧ iv = .int .i64 i ∧ at3 ≤ n ∧ es.length ≤ i ∧ Hid (es ++ (rdE bs n (v2 - i) at3 bad3).1 = R.1 ∧ (rdE bs n (v2 - i) at3 bad3).2 = R.2) ∧ Hid (LN w r a n cap bs at3 bad3 M w.heap.size fin es ea ec wr)) (fun iv _ => v2 - (intOf iv).toNat)
  case atStart => exact ⟨0, [], none, 0, a2, b2, by omega, rfl, la2, by simp, Lib.hid (by rw [Nat.sub_zero, RR.out]; exact ⟨rfl, rfl⟩), L4⟩
  case round =>
    clear L4 RR
    obtain ⟨i, es, ea, ec, at3, bad3, hi', rfl, l3, hel, hE, hL⟩ := hrel
    by_cases hlt : i < v2
    · obtain ⟨l, hl⟩ : ∃ v, numR bs n at3 4 bad3 = v := ⟨_, rfl⟩
      obtain ⟨a4, ha4⟩ : ∃ v, atR n at3 4 bad3 = v := ⟨_, rfl⟩
      obtain ⟨b4, hb4⟩ : ∃ v, (!okR n at3 4 bad3) = v := ⟨_, rfl⟩
      obtain ⟨t, ht⟩ : ∃ v, numR bs n a4 2 b4 = v := ⟨_, rfl⟩
      obtain ⟨a5, ha5⟩ : ∃ v, atR n a4 2 b4 = v := ⟨_, rfl⟩
      obtain ⟨b5, hb5⟩ : ∃ v, (!okR n a4 2 b4) = v := ⟨_, rfl⟩
      have l4 : a4 ≤ n := ha4 ▸ atR_le l3
      have l5 : a5 ≤ n := ha5 ▸ atR_le l4
      have EX := Lib.hid (show rdE bs n (v2 - i) at3 bad3 = if b5 then ([(l, t)], a5, true) else ((l, t) :: (rdE bs n (v2 - (i + 1)) a5 false).1, (rdE bs n (v2 - (i + 1)) a5 false).2) from by
        rw [show v2 - i = (v2 - (i + 1)) + 1 by omega, rdE_succ]
        simp only [hl, ha4, hb4, ht, ha5, hb5])
      have C4 := Lib.hid (fun (w' : World) (h : LN w r a n cap bs at3 bad3 M w.heap.size fin es ea ec w') => rdNum9 4 4 rfl (by omega) (by omega) l a4 b4 h HR.out hn l3 hl ha4 hb4)
      have C5 := Lib.hid (fun (w' : World) (h : LN w r a n cap bs a4 b4 M w.heap.size fin es ea ec w') => rdNum9 2 2 rfl (by omega) (by omega) t a5 b5 h HR.out hn l4 ht ha5 hb5)
      have L4 := Lib.hid (hL.out.below (Below.refl _ _).drew)
      have y4 := L4.out.c1
      clear hl ha4 hb4 ht ha5 hb5
      go_upto_region 5 with fail
      go_region_law
        (first
          | (refine step_append_lies _ (by rfl) _ _ _ (by rfl) w.heap.size 129 i0 _ 2 16 Try.underlying102 hi hz0 hz1 hz2 rfl (by omega) (.slice ea es.length ec) es.length (peV es) (by first | rfl | (simp [Act.eval]; done) | (simp [Act.eval, Act.put]; done)) (hL6.o.alloc _) ⟨w6.heap.size, 0, none⟩ 1 1 [.int .i64 (l : Int), .int .i64 (t : Int)] (by first | rfl | (simp [Act.eval]; done) | (simp [Act.eval, Act.put]; done)) (by rfl) (World.news_of_block (cs := #[.int .i64 (l : Int), .int .i64 (t : Int)]) (t := 129) (fr := (0, 0)) (heap_alloc_new w6 _)) (by simp [Value.oneCell']) (by omega) (by unfold maxLen; omega) (by omega) (by have := hL6.t.size; simp; omega) (w6.heap.size + 1) (by simp) ?_; intro g8 c8 w8 hown8 hgrow8 hat8 hlt8; obtain ⟨z0, z1⟩ := hL6.kept hgrow8)
          | (go_simp; go_at_call 56; (with_reducible refine (C4.out _ L4.out).mono ?_); rintro e w5 ⟨rfl, hL5⟩; have y5 := hL5.c1)
          | (go_simp; go_at_call 56; (with_reducible refine (C5.out _ hL5).mono ?_); rintro e w6 ⟨rfl, hL6⟩; have y6 := hL6.c1; have y7 := fun ob => (cell_alloc_old (w := w6) (o := ob) (b := M) (p := 1) (lt_of_cell hL6.c0)).trans hL6.c1)
          | fail)
      all_goals
        have LA := Lib.hid (hL6.app (x := (l, t)) HR.out HA.out hown8 hgrow8 (hat8.imp id (fun e => by simp; exact e)))
        clear hown8 hgrow8 hat8 hlt8 z0 z1 hL5 hL6 y4 y5 y6 y7 C4 C5 L4
        have CB5 := Lib.hid (rdBad_any r a n cap bs a5 b5 _ LA.out.rd)
        go_wp2_with fail
        with_reducible refine CB5.out.mono ?_
        rintro e w9 ⟨rfl, rfl⟩
        cases b5 with
        | true =>
          have ED := Lib.hid (show es ++ [(l, t)] = R.1 ∧ (a5, true) = R.2 from by
            have h1 := hE.out
            rw [EX.out] at h1
            simpa using h1)
          have F := Lib.hid (LA.out.fin HR.out HA.out (.bool fin) (.slice (some ⟨g8, 0, none⟩) (es.length + 1) c8))
          have EL : (es ++ [((l, t) : PE)]).length = es.length + 1 := by rw [List.length_append]; rfl
          have c0 := LA.out.c0
          have c1 := LA.out.c1
          rw [EL] at c1
          have k0 := LA.out.k0
          have k1 := LA.out.k1
          have f0 := LA.out.kf 0
          have f1 := LA.out.kf 1
          have ELH := Lib.hid EL
          clear EL
          go_wp2_with fail
          (try simp only [Exit.inBlock, Exit.then])
          refine bodyPost_ret (results_cell_row rfl _ _ w.heap.size 104 _ (0, 0) _ rfl F.out.2.2.2 Try.underlying104 rfl (by kernel_rfl)) rfl ?_
          obtain ⟨e1, e2⟩ := ED.out
          rw [← e1, ← e2]
          exact ⟨some ⟨g8, 0, none⟩, c8, by rw [ELH.out], F.out.1, F.out.2.1, F.out.2.2.1⟩
        | false =>
          have EN := Lib.hid (show (es ++ [(l, t)]) ++ (rdE bs n (v2 - (i + 1)) a5 false).1 = R.1 ∧ (rdE bs n (v2 - (i + 1)) a5 false).2 = R.2 from by
            have h1 := hE.out
            rw [EX.out] at h1
            simpa using h1)
          go_wp2_with fail
          go_roundw
          case rel => exact ⟨i + 1, es ++ [(l, t)], some ⟨g8, 0, none⟩, c8, a5, false, by omega, by go_num, l5, by simp; omega, EN, LA⟩
          case measure => simp [intOf] <;> omega
    · obtain rfl : i = v2 := by omega
      have ED := Lib.hid (show es = R.1 ∧ (at3, bad3) = R.2 from by
        have h1 := hE.out
        rw [Nat.sub_self] at h1
        simpa [rdE] using h1)
      have F := Lib.hid (hL.out.fin HR.out HA.out (.bool fin) (.slice ea es.length ec))
      have c0 := hL.out.c0
      have c1 := hL.out.c1
      have k0 := hL.out.k0
      have k1 := hL.out.k1
      have f0 := hL.out.kf 0
      have f1 := hL.out.kf 1
      go_wp2_with fail
      (try simp only [Exit.inBlock, Exit.then])
      refine bodyPost_ret (results_cell_row rfl _ _ w.heap.size 104 _ (0, 0) _ rfl F.out.2.2.2 Try.underlying104 rfl (by kernel_rfl)) rfl ?_
      obtain ⟨e1, e2⟩ := ED.out
      rw [← e1, ← e2]
      exact ⟨ea, ec, rfl, F.out.1, F.out.2.1, F.out.2.2.1⟩
end Go.Proofs.Ytbbholdadgjelaa
/- A string's bytes; a string appended to a slice of bytes. -/
namespace Go.Proofs.Ytbbholdadgjelaa
open Go.ChangeShapes Go.WideShapes Go.ChangeAt Go.RowKit
set_option linter.unusedVariables false
set_option maxRecDepth 20000
def strB (s : ByteArray) : List Nat := s.data.toList.map UInt8.toNat
theorem strB_length (s : ByteArray) : (strB s).length = s.size := by rw [strB, List.length_map, Array.length_toList]; rfl
theorem strB_lt (s : ByteArray) : ∀ b ∈ strB s, b < 256 := by
  intro b hb
  obtain ⟨x, _, rfl⟩ := List.mem_map.1 hb
  exact x.toNat_lt
theorem strCells_eq (s : ByteArray) : Lib.strCells s = bytesV (strB s) := by
  simp [Lib.strCells, bytesV, strB, List.map_map]
theorem below_bytesWorld (w : World) (e : TypeId) (s : ByteArray) : Below w.heap.size w (Lib.bytesWorld w e s) :=
  ⟨rfl, rfl, rfl, by rw [Lib.bytesWorld_size]; omega, fun k hk => Lib.bytesWorld_at_old w e s k hk⟩
theorem strB_getD (s : ByteArray) (j : Nat) : (strB s).getD j 0 = (s.data.toList.getD j 0).toNat := by
  simp only [strB, List.getD_eq_getElem?_getD, List.getElem?_map]
  cases s.data.toList[j]? <;> rfl
theorem holdsB_bytesWorld (w : World) (e : TypeId) (s : ByteArray) : HoldsB (Lib.bytesWorld w e s) (some ⟨w.heap.size, 0, none⟩) s.size (strB s) :=
  ⟨⟨by rw [List.length_map, strB_length], fun _ => ⟨_, _, rfl, fun i hi => by rw [Nat.zero_add, Lib.bytesWorld_cell w e s i hi, getD_map_cast, strB_getD]⟩⟩, strB_lt s⟩
theorem wpList_append_str {P : Program} {w : World} {ops : Array Oper} {rest : List Oper} {o : Oper} {a : Act} {Q : Exit → Act → World → Prop} (hgd : o.guard = none) (s x : Operand) (t u : TypeId)
    (ho : o.op = .call { callee := .builtin .append, args := #[s, x], argTypes := #[t, u] })
    (base : Nat) (e : TypeId) (i : TypeInfo) (ht : P.underlying t = some (.slice e)) (hu : P.underlying u = some .string) (hi : P.info? e = some i) (hz : i.zero = some (.int .u8 0)) (hsize : i.size = 1) (hby : i.bytes = 1)
    (v : Value) (n : Nat) (bs : List Nat) (hs : a.eval s = v) (hown : w.ownsRow base e 1 v n (bytesV bs))
    (str : ByteArray) (hx : a.eval x = .string str)
    (h63 : n + str.size ≤ maxLen) (hbytes : n + str.size ≤ 140737488355328) (hbase : base ≤ w.heap.size)
    (h : ∀ a' c' w', w'.ownsRow base e 1 (.slice a' (n + str.size) c') (n + str.size) (bytesV (bs ++ strB str)) → Below base w w' → wpList P ops Q rest (a.put o.dst (.slice a' (n + str.size) c')) w') : wpList P ops Q (o :: rest) a w := by
  refine Lib.wpList_append_own_string w hgd s x t u ho base e i ht hu hi hz hsize hby v n (bytesV bs) hs hown str hx h63 hbytes hbase fun v' w' h2 h3 _ => ?_
  have hb' : Below base w w' := (Below.refl base w).grown h3 hbase fun k hk => (hown.lt k hk).1
  rw [strCells_eq, bytesV_append] at h2
  rcases Joins.ownsRow_forms h2 with ⟨rfl, h0⟩ | ⟨g, cap, rfl⟩
  · have := h none 0 w' (by rw [h0] at h2 ⊢; exact h2) hb'
    rw [h0] at this
    exact this
  · exact h _ _ w' h2 hb'
end Go.Proofs.Ytbbholdadgjelaa
/- contracts of code: a text read -/
namespace Go.Proofs.Ytbbholdadgjelaa
open Go.RowKit
set_option linter.unusedVariables false
set_option maxRecDepth 20000
/-- the text of bytes -/
def strN (bs : List Nat) : ByteArray := strOfNums (bs.map fun b : Nat => (b : Int))
theorem strN_nil : strN [] = ⟨#[]⟩ := rfl
theorem run_conv_bytes {P : Program} (w : World) (src e dst : TypeId) (hs : P.underlying src = some (.slice e)) (he : P.underlying e = some (.int .u8)) (hd : P.underlying dst = some .string) (a : Option Addr) (n cap : Nat) (bs : List Nat) (h : HoldsB w a n bs) :
    (convert src dst (.slice a n cap)).run P w = .ok (.string (strN bs)) w := by
  have hl := h.len
  rcases Nat.eq_zero_or_pos n with h0 | h0
  · subst h0
    obtain rfl := List.eq_nil_of_length_eq_zero hl
    rw [run_convert_bytes_string w src dst e a 0 cap hs he hd]
    cases a with
    | none => simp [Conv.bytesToString]; rfl
    | some ad => simp [Conv.bytesToString]; rfl
  · obtain ⟨b, o, rfl, hc⟩ := h.at h0
    exact run_convert_bytes_arg (P := P) w src e hs he b o n cap (bs.map fun b : Nat => (b : Int)) (by simpa using hl) (fun i hi => by rw [hc i (by simpa [hl] using hi), getD_map_cast]) dst hd
/-- the bytes of the text at k -/
def textN (bs : List Nat) (k : Nat) : List Nat := (bs.take (k + 2 + numN bs k 2)).drop (k + 2)

theorem ret_mid {u v : Value} {x y : Int} (h : x = y) : Ending.returned (.tuple #[u, .int .i64 x, v]) = .returned (.tuple #[u, .int .i64 y, v]) := by rw [h]

end Go.Proofs.Ytbbholdadgjelaa
/- pack: bytes alike, bytes that begin with others -/
namespace Go.Proofs.Ytbbholdadgjelaa
open Go.RowKit
set_option linter.unusedVariables false
set_option maxRecDepth 20000
theorem strN_inj {x y : List Nat} (hx : ∀ b ∈ x, b < 256) (hy : ∀ b ∈ y, b < 256) : strN x = strN y ↔ x = y := by
  refine ⟨fun h => ?_, fun h => by rw [h]⟩
  have key : ∀ l : List Nat, (∀ b ∈ l, b < 256) → ((strN l).data.toList.map UInt8.toNat) = l := fun l hl => by
    unfold strN
    rw [strOfNums_data, List.map_map, List.map_map]
    refine (List.map_congr_left fun b hb => ?_).trans (List.map_id l)
    have := hl b hb
    simp
    omega
  rw [← key x hx, ← key y hy, h]
theorem bEqual_any (a1 a2 : Option Addr) (n1 c1 n2 c2 : Nat) (x y : List Nat) (w : World) (h1 : HoldsB w a1 n1 x) (h2 : HoldsB w a2 n2 y) :
    Calls Try.prog 41 #[.slice a1 n1 c1, .slice a2 n2 c2] w fun e w' => e = .returned (.bool (decide (x = y))) ∧ w = w' := by
  have r1 := run_conv_bytes w 35 5 9 Try.underlying35 Try.underlying5 Try.underlying9 a1 n1 c1 x h1
  have r2 := run_conv_bytes w 35 5 9 Try.underlying35 Try.underlying5 Try.underlying9 a2 n2 c2 y h2
  have E := Lib.hid (strN_inj h1.2 h2.2)
  clear h1 h2
  by_cases he : x = y
  · subst he
    rw [decide_eq_true rfl]
    have e1 : ((strN x).toList == (strN x).toList) = true := by simp
    go_enter Try.func41, Try.ntmps41
    go_wp2_with fail
    go_ret
    exact ⟨rfl, rfl⟩
  · rw [decide_eq_false he]
    have e1 : ((strN x).toList == (strN y).toList) = false := by
      rw [beq_eq_false_iff_ne]; exact fun h => he (E.out.1 (toList_inj h))
    clear he
    go_enter Try.func41, Try.ntmps41
    go_wp2_with fail
    go_ret
    exact ⟨rfl, rfl⟩
theorem bPrefix_any (a1 a2 : Option Addr) (n1 c1 n2 c2 : Nat) (x y : List Nat) (w : World) (h1 : HoldsB w a1 n1 x) (h2 : HoldsB w a2 n2 y) (hc : n1 ≤ c1) (h0 : 0 < n2) (hn : n1 ≤ 9223372036854775807) (hn2 : n2 ≤ 9223372036854775807) :
    Calls Try.prog 53 #[.slice a1 n1 c1, .slice a2 n2 c2] w fun e w' => e = .returned (.bool (decide (x.take n2 = y))) ∧ w = w' := by
  have l1 := h1.len
  have l2 := h2.len
  by_cases hle : n2 ≤ n1
  · have d1 : decide ((n1 : Int) ≥ (n2 : Int)) = true := decide_eq_true (by omega)
    have d2 : decide ((n2 : Int) ≤ (n1 : Int)) = true := decide_eq_true (by omega)
    obtain ⟨q, o, rfl, -⟩ := h1.at (by omega)
    have CE := Lib.hid (bEqual_any (some ⟨q, o, none⟩) a2 n2 c1 n2 c2 (x.take n2) y w (h1.front n2 hle) h2)
    obtain ⟨z, hz⟩ : ∃ z, decide (x.take n2 = y) = z := ⟨_, rfl⟩
    rw [hz] at CE ⊢
    have n3 : (n2 : Int) ≤ (c1 : Int) := by omega
    have n4 : n2 ≤ c1 := by omega
    have n5 : (0 : Int) ≤ (n2 : Int) := by omega
    clear h1 h2 hz l1 l2
    go_enter Try.func53, Try.ntmps53
    go_wp2_with fail
    with_reducible refine CE.out.mono ?_
    rintro e w' ⟨rfl, rfl⟩
    go_wp2_with fail
    go_ret
    exact ⟨rfl, rfl⟩
  · have d1 : decide ((n1 : Int) ≥ (n2 : Int)) = false := decide_eq_false (by omega)
    have d2 : decide ((n2 : Int) ≤ (n1 : Int)) = false := decide_eq_false (by omega)
    have hz : decide (x.take n2 = y) = false := decide_eq_false (fun e => by
      have := congrArg List.length e
      rw [List.length_take] at this; omega)
    rw [hz]
    clear h1 h2 hz l1 l2
    go_enter Try.func53, Try.ntmps53
    go_wp2_with fail
    go_ret
    exact ⟨rfl, rfl⟩
end Go.Proofs.Ytbbholdadgjelaa
/- pack: nodes as they are read, in memory -/
namespace Go.Proofs.Ytbbholdadgjelaa
open Go.RowKit
set_option linter.unusedVariables false
set_option maxRecDepth 20000
theorem pnode_info : (Try.prog.info? 104).map (fun i => (i.zero, i.size, i.bytes)) = some (some (.agg #[.bool false, .slice none 0 0]), 2, 32) := by kernel_rfl
/-- so many nodes, read on from here; none: something was missing -/
def rdL (bs : List Nat) (n : Nat) : Nat → Nat → Option (List PN × Nat)
  | 0, at_ => some ([], at_)
  | k + 1, at_ => if (rdN bs n at_ false).2.2 then none else (rdL bs n k (rdN bs n at_ false).2.1).map (fun r => ((rdN bs n at_ false).1 :: r.1, r.2))
/-- the nodes of a body: none: it is no such body -/
def readP (body : List Nat) : Option (List PN) :=
  if body.take 4 = [73, 78, 75, 49] then
    let d := body.drop 4
    if okR d.length 0 2 false then
      match rdL d d.length (numR d d.length 0 2 false) 2 with
      | some (L, k) => if k = d.length then some L else none
      | none => none
    else none
  else none
/-- a node with where its edges lie -/
structure PM where
  fin : Bool
  es : List PE
  ea : Option Addr
  ec : Nat
def pm0 : PM := ⟨false, [], none, 0⟩
def pmP (x : PM) : PN := ⟨x.fin, x.es⟩
def pmV : List PM → List Value
  | [] => []
  | x :: l => .bool x.fin :: .slice x.ea x.es.length x.ec :: pmV l
theorem pmV_len : ∀ l : List PM, (pmV l).length = l.length * 2
  | [] => rfl
  | x :: l => by simp [pmV, pmV_len l]; omega
theorem pmV_app : ∀ k l : List PM, pmV (k ++ l) = pmV k ++ pmV l
  | [], l => rfl
  | x :: k, l => by simp [pmV, pmV_app k l]
theorem pmV_one : ∀ (l : List PM), ∀ u ∈ pmV l, u.oneCell' = true
  | [], u, h => by simp [pmV] at h
  | x :: l, u, h => by
    simp only [pmV, List.mem_cons] at h
    rcases h with h | h | h
    · subst h; rfl
    · subst h; rfl
    · exact pmV_one l u h
theorem pmV_at : ∀ (l : List PM) (i : Nat), i < l.length → (pmV l)[i * 2]? = some (.bool (l.getD i pm0).fin) ∧ (pmV l)[i * 2 + 1]? = some (.slice (l.getD i pm0).ea (l.getD i pm0).es.length (l.getD i pm0).ec)
  | [], i, h => by simp at h
  | x :: l, 0, _ => by simp [pmV]
  | x :: l, i + 1, h => by
    have ih := pmV_at l i (by simpa using h)
    have e1 : (i + 1) * 2 = i * 2 + 1 + 1 := by omega
    rw [e1]
    simpa [pmV] using ih
/-- nodes in memory, each with its own edges, all from block B on -/
structure PR9 (B : Nat) (NL : List PM) (na : Option Addr) (nc : Nat) (w : World) : Prop where
  o : w.ownsRow B 104 2 (.slice na NL.length nc) NL.length (pmV NL)
  e : ∀ x ∈ NL, w.ownsRow B 129 2 (.slice x.ea x.es.length x.ec) x.es.length (peV x.es)
  ne : ∀ x ∈ NL, ∀ k, x.ea = some ⟨k, 0, none⟩ → na ≠ some ⟨k, 0, none⟩
theorem turn_grown9 {w w' : World} {r : Option Nat} (h : w.grownBy w' r) : Turn (fun k => some k = r) w w' := ⟨h.os, h.tape, h.output, h.size, fun k hk hn => h.block k hk hn⟩
theorem own_turn9 {w w' : World} {B : Nat} {e : TypeId} {size n c : Nat} {a : Option Addr} {xs : List Value} {T : Nat → Prop} (h : w.ownsRow B e size (.slice a n c) n xs) (t : Turn T w w') (hT : ∀ k, a = some ⟨k, 0, none⟩ → ¬ T k) : w'.ownsRow B e size (.slice a n c) n xs :=
  gowns_block h fun g e => t.block g (h.lt g (by rw [e]; rfl)).2 (hT g e)
theorem PR9.turn {B : Nat} {NL : List PM} {na : Option Addr} {nc : Nat} {w w' : World} {T : Nat → Prop} (h : PR9 B NL na nc w) (t : Turn T w w') (h1 : ∀ k, na = some ⟨k, 0, none⟩ → ¬ T k) (h2 : ∀ x ∈ NL, ∀ k, x.ea = some ⟨k, 0, none⟩ → ¬ T k) : PR9 B NL na nc w' :=
  ⟨own_turn9 h.o t h1, fun x hx => own_turn9 (h.e x hx) t (h2 x hx), h.ne⟩
/-- a node more -/
theorem PR9.grow {B : Nat} {NL : List PM} {na : Option Addr} {nc g c : Nat} {x : PM} {w w8 : World} {ob : Obj} (h : PR9 B NL na nc w) (hx : w.ownsRow B 129 2 (.slice x.ea x.es.length x.ec) x.es.length (peV x.es)) (hne : ∀ k, x.ea = some ⟨k, 0, none⟩ → na ≠ some ⟨k, 0, none⟩)
    (hown : w8.ownsRow B 104 2 (.slice (some ⟨g, 0, none⟩) (NL.length + 1) c) (NL.length + 1) (pmV NL ++ [.bool x.fin, .slice x.ea x.es.length x.ec])) (hg : (w.alloc ob).grownBy w8 (Value.slice na NL.length nc).ownBlock) (hat : (Value.slice na NL.length nc).ownBlock = some g ∨ g = (w.alloc ob).heap.size) : PR9 B (NL ++ [x]) (some ⟨g, 0, none⟩) c w8 := by
  have hz : (w.alloc ob).heap.size = w.heap.size + 1 := by simp
  have t : Turn (fun k => some k = (Value.slice na NL.length nc).ownBlock) w w8 := (Turn.alloc _ w ob).trans (turn_grown9 hg)
  have el : (NL ++ [x]).length = NL.length + 1 := by rw [List.length_append]; rfl
  have all : ∀ y ∈ NL ++ [x], w.ownsRow B 129 2 (.slice y.ea y.es.length y.ec) y.es.length (peV y.es) ∧ ∀ k, y.ea = some ⟨k, 0, none⟩ → na ≠ some ⟨k, 0, none⟩ := fun y hy => by
    rcases List.mem_append.1 hy with hy | hy
    · exact ⟨h.e y hy, h.ne y hy⟩
    · obtain rfl : y = x := by simpa using hy
      exact ⟨hx, hne⟩
  refine ⟨by rw [el, pmV_app]; exact hown, fun y hy => own_turn9 (all y hy).1 t (fun k e e2 => (all y hy).2 k e (own_at9 h.o e2.symm)), fun y hy k e e2 => ?_⟩
  injection e2 with e2; injection e2 with e2; subst e2
  rcases hat with e3 | e3
  · exact (all y hy).2 g e (own_at9 h.o e3)
  · have := ((all y hy).1.lt g (by rw [e]; rfl)).2; omega
end Go.Proofs.Ytbbholdadgjelaa
/- pack: read -/
namespace Go.Proofs.Ytbbholdadgjelaa
open Go.RowKit
set_option linter.unusedVariables false
set_option maxRecDepth 20000
theorem magic4 (w : World) : Calls Try.prog 54 #[] w fun e w' => ∃ a c, e = .returned (.slice a 4 c) ∧ HoldsB w' a 4 [73, 78, 75, 49] ∧ Below w.heap.size w w' := by
  refine (magic_any w).mono ?_
  rintro e w' ⟨a, c, rfl, h1, h2, -⟩
  exact ⟨a, c, rfl, holdsB_of_values (owns_holds h1) (by decide), h2⟩
/-- the loop's state -/
structure RL9 (w0 : World) (r : Nat) (a : Option Addr) (n cap : Nat) (bs : List Nat) (at_ : Nat) (bad : Bool) (NL : List PM) (na : Option Addr) (nc : Nat) (w : World) : Prop where
  rd : RdM r a n cap bs at_ bad w
  q : PR9 w0.heap.size NL na nc w
  nr : ∀ k, na = some ⟨k, 0, none⟩ → k ≠ r
  er : ∀ x ∈ NL, ∀ k, x.ea = some ⟨k, 0, none⟩ → k ≠ r
  r0 : w0.heap.size ≤ r
  b : Below w0.heap.size w0 w
/-- a node was read -/
theorem RL9.step {w0 : World} {r : Nat} {a : Option Addr} {n cap : Nat} {bs : List Nat} {at_ at2 : Nat} {bad bad2 : Bool} {NL : List PM} {na : Option Addr} {nc : Nat} {w w' w8 : World} {x : PM} {g c : Nat} {ob : Obj} (h : RL9 w0 r a n cap bs at_ bad NL na nc w) (ha : ∀ q o, a = some ⟨q, o, none⟩ → q < w0.heap.size) (m : RdM r a n cap bs at2 bad2 w') (t : Turn (fun k => k = r) w w') (hx : w'.ownsRow w.heap.size 129 2 (.slice x.ea x.es.length x.ec) x.es.length (peV x.es))
    (hown : w8.ownsRow w0.heap.size 104 2 (.slice (some ⟨g, 0, none⟩) (NL.length + 1) c) (NL.length + 1) (pmV NL ++ [.bool x.fin, .slice x.ea x.es.length x.ec])) (hg : (w'.alloc ob).grownBy w8 (Value.slice na NL.length nc).ownBlock) (hat : (Value.slice na NL.length nc).ownBlock = some g ∨ g = (w'.alloc ob).heap.size) :
    RL9 w0 r a n cap bs at2 bad2 (NL ++ [x]) (some ⟨g, 0, none⟩) c w8 := by
  have hz : (w'.alloc ob).heap.size = w'.heap.size + 1 := by simp
  have q' : PR9 w0.heap.size NL na nc w' := h.q.turn t h.nr h.er
  have lr : r < w'.heap.size := lt_of_cell m.c0
  have lrw : r < w.heap.size := lt_of_cell h.rd.c0
  have hxb : ∀ k, x.ea = some ⟨k, 0, none⟩ → w.heap.size ≤ k := fun k e => (hx.lt k (by rw [e]; rfl)).1
  have nb : ∀ k, some k = (Value.slice na NL.length nc).ownBlock → na = some ⟨k, 0, none⟩ := fun k e => own_at9 q'.o e.symm
  have t8 : Turn (fun k => some k = (Value.slice na NL.length nc).ownBlock) w' w8 := (Turn.alloc _ w' ob).trans (turn_grown9 hg)
  refine ⟨m.turn t8 (fun e => h.nr r (nb r e) rfl) (fun q o e e2 => ?_), q'.grow (base_less9 hx h.b.size) (fun k e e2 => ?_) hown hg hat, fun k e => ?_, fun y hy k e => ?_, h.r0, ?_⟩
  · have h1 := ha q o e
    have h2 := (q'.o.lt q e2.symm).1
    omega
  · have h1 := hxb k e
    have h2 := (h.q.o.lt k (by rw [e2]; rfl)).2
    omega
  · injection e with e; injection e with e; subst e
    rcases hat with e3 | e3
    · exact h.nr g (own_at9 q'.o e3)
    · omega
  · rcases List.mem_append.1 hy with hy | hy
    · exact h.er y hy k e
    · obtain rfl : y = x := by simpa using hy
      have := hxb k e
      omega
  · have hB := h.b.size
    have t9 : Turn (fun k => w0.heap.size ≤ k) w w8 := ⟨t8.os.trans t.os, t8.tape.trans t.tape, t8.output.trans t.output, Nat.le_trans t.size t8.size, fun k hk hn => (t8.block k (Nat.lt_of_lt_of_le hk t.size) (fun e => hn (q'.o.lt k e.symm).1)).trans (t.block k hk (fun e => hn (by rw [e]; exact h.r0)))⟩
    exact h.b.trans (t9.below (fun k hk => hk) hB)
end Go.Proofs.Ytbbholdadgjelaa
/- pack: read, its walk -/
namespace Go.Proofs.Ytbbholdadgjelaa
open Go.RowKit
set_option linter.unusedVariables false
set_option maxRecDepth 20000
theorem rdE_le (bs : List Nat) (n : Nat) : ∀ (k at_ : Nat) (bad : Bool), at_ ≤ n → (rdE bs n k at_ bad).2.1 ≤ n
  | 0, at_, bad, h => h
  | k + 1, at_, bad, h => by
    rw [rdE_succ]
    simp only
    split
    · exact atR_le (atR_le h)
    · exact rdE_le bs n k _ false (atR_le (atR_le h))
theorem rdN_le (bs : List Nat) (n at_ : Nat) (bad : Bool) (h : at_ ≤ n) : (rdN bs n at_ bad).2.1 ≤ n := rdE_le bs n _ _ _ (atR_le (atR_le h))
def ReadP (w : World) (x : Option (List PN)) (e : Ending) (w' : World) : Prop := Below w.heap.size w w' ∧ match x with
  | some L => ∃ na nc NL, NL.map pmP = L ∧ e = .returned (.tuple #[.slice na NL.length nc, .bool true]) ∧ PR9 w.heap.size NL na nc w'
  | none => ∃ v, e = .returned (.tuple #[v, .bool false])
set_option maxHeartbeats 6400000 in
set_option maxRecDepth 100000 in
theorem read_any (a : Option Addr) (n cap : Nat) (body : List Nat) (w : World) (h : HoldsB w a n body) (hc : n ≤ cap) (hn : n ≤ 1048576) :
    Calls Try.prog 37 #[.slice a n cap] w (ReadP w (readP body)) := by
  obtain ⟨i0, hi, hz0, hz1, hz2⟩ := info_parts pnode_info
  have H := Lib.hid h
  have hl := h.len
  have HL := Lib.hid hl
  have CP := Lib.hid (fun (w' : World) a2 c2 (hb : Below w.heap.size w w') (h2 : HoldsB w' a2 4 [73, 78, 75, 49]) => bPrefix_any a a2 n cap 4 c2 body [73, 78, 75, 49] w' (h.below hb) h2 hc (by omega) (by omega) (by omega))
  by_cases hm : body.take 4 = [73, 78, 75, 49]
  · rw [decide_eq_true hm] at CP
    have n4 : 4 ≤ n := by
      have := congrArg List.length hm
      rw [List.length_take, hl] at this
      simp at this; omega
    obtain ⟨q, o, rfl, -⟩ := h.at (by omega)
    obtain ⟨m, hmn⟩ : ∃ m, n - 4 = m := ⟨_, rfl⟩
    have HD : ∃ A : Addr, (if cap = 4 then some (⟨q, o, none⟩ : Addr) else some ⟨q, o + 4, none⟩) = some A ∧ Hid (HoldsB w (some A) m (body.drop 4) ∧ ∀ q2 o2, some A = some (⟨q2, o2, none⟩ : Addr) → q2 < w.heap.size) := by
      have lq : q < w.heap.size := by
        obtain ⟨q2, o2, e, hcc⟩ := h.at (by omega)
        injection e with e; injection e with e1 e2
        subst e1
        exact lt_of_cell (hcc 0 (by omega))
      by_cases h4 : cap = 4
      · refine ⟨⟨q, o, none⟩, by simp [h4], Lib.hid ⟨?_, fun q2 o2 e => by injection e with e; injection e with e1 e2; omega⟩⟩
        obtain rfl : m = 0 := by omega
        rw [List.drop_of_length_le (by omega)]
        exact holdsB_nil _ _
      · refine ⟨⟨q, o + 4, none⟩, by simp [h4], Lib.hid ⟨?_, fun q2 o2 e => by injection e with e; injection e with e1 e2; omega⟩⟩
        have h5 := h.part 4 n (by omega) (Nat.le_refl _) m hmn.symm
        rw [List.take_of_length_le (by omega)] at h5
        exact h5
    obtain ⟨A, hA, hAD⟩ := HD
    obtain ⟨d, hd⟩ : ∃ d, body.drop 4 = d := ⟨_, rfl⟩
    rw [hd] at hAD
    have dl : d.length = m := by rw [← hd, List.length_drop]; omega
    have DB := Lib.hid (show ∀ b ∈ d, b < 256 from fun b hb => h.2 b (List.mem_of_mem_drop (hd ▸ hb)))
    obtain ⟨cnt, hcnt⟩ : ∃ c, numR d m 0 2 false = c := ⟨_, rfl⟩
    obtain ⟨a1, ha1⟩ : ∃ c, atR m 0 2 false = c := ⟨_, rfl⟩
    obtain ⟨b1, hb1⟩ : ∃ c, (!okR m 0 2 false) = c := ⟨_, rfl⟩
    have la1 : a1 ≤ m := ha1 ▸ atR_le (Nat.zero_le _)
    have n5 : (4 : Int) ≤ (n : Int) := by omega
    have n6 : (4 : Int) ≤ (cap : Int) := by omega
    have n7 : 4 ≤ cap := by omega
    have HDD := Lib.hid hd
    clear h hd hl
    go_enter Try.func37, Try.ntmps37
    go_wp2_with fail
    refine (magic4 w).mono ?_
    rintro e w1 ⟨a2, c2, rfl, h2, hb2⟩
    have C1 := Lib.hid (CP.out w1 a2 c2 hb2 h2)
    have B1 := Lib.hid hb2
    clear h2 hb2 CP
    go_wp2_with fail
    with_reducible refine C1.out.mono ?_
    rintro e w2 ⟨rfl, rfl⟩
    go_wp2_with fail
    refine (magic4 w1).mono ?_
    rintro e w2 ⟨a3, c3, rfl, -, hb2⟩
    have B2 := Lib.hid (B1.out.trans (hb2.mono B1.out.size))
    clear hb2 C1
    have HA := Lib.hid (show ∀ q2 o2, some A = some (⟨q2, o2, none⟩ : Addr) → q2 < w.heap.size from hAD.out.2)
    have CR := Lib.hid (rdRead_any (some A) m (cap - 4) d w2 (hAD.out.1.below B2.out) (fun q2 o2 e => Nat.lt_of_lt_of_le (HA.out q2 o2 e) B2.out.size))
    go_wp2_with fail
    with_reducible refine CR.out.mono ?_
    rintro e w3 ⟨rfl, hR3, hb3, -⟩
    have C3 := Lib.hid (rdNum_any w2.heap.size (some A) m (cap - 4) d 0 false 2 w3 hR3 (by omega) (by omega) (by omega) (by omega))
    rw [hcnt, ha1, hb1, show ((2 : Nat) : Int) = 2 from rfl] at C3
    have B3 := Lib.hid (B2.out.trans (hb3.mono B2.out.size))
    have R0 := B2.out.size
    clear hb3 hR3 CR
    go_wp2_with fail
    with_reducible refine C3.out.mono ?_
    rintro e w4 ⟨rfl, m4, t4⟩
    have R4 := Lib.hid (show RL9 w w2.heap.size (some A) m (cap - 4) d a1 b1 [] none 0 w4 from
      ⟨m4, ⟨World.ownsRow_nil _ _ _ _, fun x hx => (by cases hx), fun x hx => (by cases hx)⟩, fun k e => (by cases e), fun x hx => (by cases hx), R0, B3.out.trans (t4.below (fun k hk => by rw [hk]; exact R0) B3.out.size)⟩)
    have RP := Lib.hid (show readP body = if okR m 0 2 false then (match rdL d m cnt 2 with | some (L, k) => if k = m then some L else none | none => none) else none from by
      unfold readP
      rw [if_pos hm]
      simp only [HDD.out, dl, hcnt]
      all_goals rfl)
    have B10 := Lib.hid (show (b1 = true → cnt = 0) ∧ (b1 = false → a1 = 2 ∧ okR m 0 2 false = true) ∧ (b1 = true → okR m 0 2 false = false) from by
      refine ⟨fun hb => ?_, fun hb => ?_, fun hb => ?_⟩
      · rw [hb] at hb1
        have h1 : okR m 0 2 false = false := by simpa using hb1
        rw [← hcnt]; unfold numR; rw [h1]; rfl
      · rw [hb] at hb1
        have h1 : okR m 0 2 false = true := by simpa using hb1
        exact ⟨by rw [← ha1]; unfold atR; rw [h1]; rfl, h1⟩
      · rw [hb] at hb1
        simpa using hb1)
    have cb : cnt < 65536 := by rw [← hcnt]; exact numR_lt d m 0 2 false DB.out dl
    clear hm hcnt ha1 hb1 C3 m4 t4
    obtain ⟨cp, hcp⟩ : ∃ c, cap - 4 = c := ⟨_, rfl⟩
    rw [hcp] at R4
    go_wp2_with fail
    go_loopw [6, 19] (fun nv iv wr => ∃ (i : Nat) (NL : List PM) (na : Option Addr) (nc at3 : Nat), i ≤ cnt ∧ nv = .slice na NL.length nc ∧ iv = .int .i64 i ∧ at3 ≤ m ∧ NL.length ≤ i ∧ Hid ((rdL d m (cnt - i) at3).map (fun x => (NL.map pmP ++ x.1, x.2)) = rdL d m cnt a1) ∧ Hid (RL9 w w2.heap.size (some A) m cp d at3 b1 NL na nc wr)) (fun _ iv _ => cnt - (intOf iv).toNat)
    case atStart => exact ⟨0, [], none, 0, a1, by omega, rfl, rfl, la1, by simp, Lib.hid (by rw [Nat.sub_zero]; cases rdL d m cnt a1 <;> simp), R4⟩
    case round =>
      clear R4
      obtain ⟨i, NL, na, nc, at3, hi', rfl, rfl, l3, hnl, hE, hL⟩ := hrel
      by_cases hlt : i < cnt
      · have hb : b1 = false := by
          cases b1
          · rfl
          · have := B10.out.1 rfl; omega
        subst hb
        obtain ⟨⟨⟨xf, xe⟩, x2, x3⟩, hx⟩ : ∃ x, rdN d m at3 false = x := ⟨_, rfl⟩
        have lx : x2 ≤ m := by have := rdN_le d m at3 false l3; rw [hx] at this; exact this
        have EX := Lib.hid (show rdL d m (cnt - i) at3 = if x3 then none else (rdL d m (cnt - (i + 1)) x2).map (fun r => ((⟨xf, xe⟩ : PN) :: r.1, r.2)) from by
          rw [show cnt - i = (cnt - (i + 1)) + 1 by omega]
          simp only [rdL, hx])
        have CN := Lib.hid (readNode_any w2.heap.size (some A) m cp d at3 false wr hL.out.rd (by omega) l3 (lt_of_cell hL.out.rd.c0) (fun q2 o2 e => Nat.lt_of_lt_of_le (HA.out q2 o2 e) hL.out.b.size) DB.out dl)
        rw [hx] at CN
        have ZL := hL.out.b.size
        clear hx
        go_wp2_with fail
        with_reducible refine CN.out.mono ?_
        rintro e w5 ⟨ea, ec, rfl, m5, o5, t5⟩
        have O5 := Lib.hid (hL.out.q.turn t5 hL.out.nr hL.out.er).o
        have X5 := Lib.hid (And.intro m5 (And.intro o5 t5))
        have Z5 := t5.size
        clear m5 o5 t5 CN
        dsimp only
        go_wp2_with (at_builtin; refine wpList_append_lies _ rfl (.tmp 21) (.tmp 24) 76 rfl w.heap.size 104 i0 _ 2 32 Try.underlying76 hi hz0 hz1 hz2 rfl (by omega) (.slice na NL.length nc) NL.length (pmV NL) (by rfl) (O5.out.alloc _) ⟨w5.heap.size, 0, none⟩ 1 1 [.bool xf, .slice ea xe.length ec] (by rfl) (by rfl) (World.news_of_block (cs := #[.bool xf, .slice ea xe.length ec]) (t := 104) (fr := (0, 0)) (heap_alloc_new w5 _)) (by simp [Value.oneCell']) (by omega) (by unfold maxLen; omega) (by omega) (by simp; omega) (w5.heap.size + 1) (by simp) ?_; intro g8 c8 w8 hown8 hgrow8 hat8 hlt8)
        have LA := Lib.hid (hL.out.step HA.out X5.out.1 X5.out.2.2 (x := ⟨xf, xe, ea, ec⟩) X5.out.2.1 hown8 hgrow8 (hat8.imp id (fun e => by rw [e]; simp)))
        clear hown8 hgrow8 hat8 hlt8 X5 O5
        have CB := Lib.hid (rdBad_any w2.heap.size (some A) m cp d x2 x3 w8 LA.out.rd)
        with_reducible refine CB.out.mono ?_
        rintro e w9 ⟨rfl, rfl⟩
        cases x3 with
        | true =>
          have RN := Lib.hid (show readP body = none from by
            have h1 := hE.out
            rw [EX.out] at h1
            obtain ⟨e1, e2⟩ := B10.out.2.1 (by first | rfl | trivial)
            rw [e1] at h1
            rw [RP.out, e2, if_pos rfl, ← h1]; rfl)
          have BZ := Lib.hid LA.out.b
          clear LA
          go_wp2_with fail
          go_ret2
          refine ⟨BZ.out, ?_⟩
          rw [RN.out]
          exact ⟨_, rfl⟩
        | false =>
          have EN := Lib.hid (show (rdL d m (cnt - (i + 1)) x2).map (fun x => ((NL ++ [(⟨xf, xe, ea, ec⟩ : PM)]).map pmP ++ x.1, x.2)) = rdL d m cnt a1 from by
            rw [← hE.out, EX.out]
            cases rdL d m (cnt - (i + 1)) x2 <;> simp [pmP])
          go_wp2_with fail
          go_roundw
          case rel => exact ⟨i + 1, NL ++ [⟨xf, xe, ea, ec⟩], some ⟨g8, 0, none⟩, c8, x2, by omega, by simp, by go_num, lx, by simp; omega, EN, LA⟩
          case measure => simp [intOf] <;> omega
      · obtain rfl : i = cnt := by omega
        have CD := Lib.hid (rdDone_any w2.heap.size (some A) m cp d at3 b1 wr hL.out.rd)
        have ED := Lib.hid (show rdL d m i a1 = some (NL.map pmP, at3) from by
          have h1 := hE.out
          rw [Nat.sub_self] at h1
          rw [← h1]; simp [rdL])
        have FB := Lib.hid hL.out.b
        have FQ := Lib.hid hL.out.q
        clear hE hL
        go_wp2_with fail
        with_reducible refine CD.out.mono ?_
        rintro e w5 ⟨rfl, hb5⟩
        have Q5 := Lib.hid (FQ.out.turn (T := fun _ => False) (Turn.of_below hb5) (fun _ _ x => x) (fun _ _ _ _ x => x))
        have BZ := Lib.hid (FB.out.trans (hb5.mono FB.out.size))
        clear hb5
        go_wp2_with fail
        go_ret2
        refine ⟨BZ.out, ?_⟩
        rw [RP.out]
        cases hb : b1 with
        | true => rw [B10.out.2.2 hb]; exact ⟨_, rfl⟩
        | false =>
          obtain ⟨e1, e2⟩ := B10.out.2.1 hb
          have h1 := ED.out
          rw [e1] at h1
          rw [e2, if_pos rfl, h1]
          by_cases hk : at3 = m
          · simp only [hk, if_true]
            exact ⟨na, nc, NL, rfl, rfl, Q5.out⟩
          · simp only [hk, if_false]
            exact ⟨_, rfl⟩
  · rw [decide_eq_false hm] at CP
    have RN : readP body = none := by unfold readP; rw [if_neg hm]
    rw [RN]
    clear hm h hl RN
    go_enter Try.func37, Try.ntmps37
    go_wp2_with fail
    refine (magic4 w).mono ?_
    rintro e w1 ⟨a2, c2, rfl, h2, hb2⟩
    have C1 := Lib.hid (CP.out w1 a2 c2 hb2 h2)
    have B1 := Lib.hid hb2
    clear h2 hb2 CP
    go_wp2_with fail
    with_reducible refine C1.out.mono ?_
    rintro e w2 ⟨rfl, rfl⟩
    go_wp2_with fail
    go_ret2
    exact ⟨B1.out, _, rfl⟩
end Go.Proofs.Ytbbholdadgjelaa
/- the library's Builder at this seat: WriteRune, String -/
namespace Go.Proofs.Ytbbholdadgjelaa
open Go.Shelf Go.RowKit
def Try.lays169_ren : Go.Shelf.Ren := ⟨fun | 169 => 89 | n => n, fun | 70 => 145 | 9 => 9 | 0 => 0 | 72 => 147 | 37 => 35 | 127 => 157 | 3 => 3 | 5 => 5 | n => n, fun | n => n⟩
theorem Try.lays169 : Go.Proofs.Lays.n169 Try.prog Try.lays169_ren := {
  mixed := by kernel_rfl
  f169 := Try.func89.trans (congrArg some (by kernel_rfl))
  t0 := Try.underlying0
  a0 := Try.isAgg0
  z0 := Try.sizeOf0
  v0 := Try.zeroValue0
  t3 := Try.underlying3
  a3 := Try.isAgg3
  z3 := Try.sizeOf3
  v3 := Try.zeroValue3
  t9 := Try.underlying9
  a9 := Try.isAgg9
  z9 := Try.sizeOf9
  v9 := Try.zeroValue9
  t37 := Try.underlying35
  a37 := Try.isAgg35
  z37 := Try.sizeOf35
  v37 := Try.zeroValue35
  t70 := Try.underlying145
  a70 := Try.isAgg145
  z70 := Try.sizeOf145
  v70 := Try.zeroValue145
  t72 := Try.underlying147
  a72 := Try.isAgg147
  z72 := Try.sizeOf147
  v72 := Try.zeroValue147
  t127 := Try.underlying157
  a127 := Try.isAgg157
  z127 := Try.sizeOf157
  v127 := Try.zeroValue157 }
theorem Try.Builder_Extra_169 : Builder.Extra Try.prog Try.lays169_ren := {
  sizeBuilder := by kernel_rfl
  liesBuilder := by kernel_rfl
  t5 := Try.underlying5
  a5 := Try.isAgg5
  z5 := Try.sizeOf5
  v5 := Try.zeroValue5
  infoByte := by kernel_rfl
  cellsByte := by kernel_rfl
  sizeByte := by kernel_rfl
  neB5 := by decide }
theorem bstring_any (B b : Nat) (l : List UInt8) (w : World) (h : Lib.IsBuilderF 147 5 B b (Lib.byteCells l) w) (hBw : B ≤ w.heap.size) :
    Calls Try.prog 89 #[.pointer (some ⟨b, 0, none⟩)] w fun e w' => e = .returned (.string ⟨l.toArray⟩) ∧ (Lib.IsBuilderF 147 5 B b (Lib.byteCells l) w' ∧ Below B w w' ∧ Lib.OthersKept 5 (some b) w w') := Any.Builder_String_any_k Try.lays169 Try.Builder_Extra_169 B b l w h hBw
def Try.lays242_ren : Go.Shelf.Ren := ⟨fun | 242 => 93 | 278 => 95 | n => n, fun | 37 => 35 | 21 => 21 | 51 => 96 | 4 => 4 | 5 => 5 | 46 => 61 | n => n, fun | n => n⟩
theorem Try.lays242 : Go.Proofs.Lays.n242 Try.prog Try.lays242_ren := {
  mixed := by kernel_rfl
  f242 := Try.func93.trans (congrArg some (by kernel_rfl))
  f278 := Try.func95.trans (congrArg some (by kernel_rfl))
  t4 := Try.underlying4
  a4 := Try.isAgg4
  z4 := Try.sizeOf4
  v4 := Try.zeroValue4
  t5 := Try.underlying5
  a5 := Try.isAgg5
  z5 := Try.sizeOf5
  v5 := Try.zeroValue5
  t21 := Try.underlying21
  a21 := Try.isAgg21
  z21 := Try.sizeOf21
  v21 := Try.zeroValue21
  t37 := Try.underlying35
  a37 := Try.isAgg35
  z37 := Try.sizeOf35
  v37 := Try.zeroValue35
  t46 := Try.underlying61
  a46 := Try.isAgg61
  z46 := Try.sizeOf61
  v46 := Try.zeroValue61
  t51 := Try.underlying96
  a51 := Try.isAgg96
  z51 := Try.sizeOf96
  v51 := Try.zeroValue96 }
theorem appendRune_any (B : Nat) (v : Value) (n : Nat) (xs : List Value) (r : Int) (hr0 : -2147483648 ≤ r) (hr1 : r ≤ 2147483647) (w : World) (hown : w.ownsRowF B 5 1 v n xs) (hlen : n + 4 ≤ 140737488355328) (hBw : B ≤ w.heap.size) :
    Calls Try.prog 93 #[v, .int .i32 r] w fun e w' => ∃ v', e = .returned v' ∧ w'.ownsRowF B 5 1 v' (n + (Lib.runeCells r).length) (xs ++ Lib.runeCells r) ∧ ∃ o, (w.alloc o).grownBy w' v.ownBlock :=
  Any.utf8_AppendRune_row Try.lays242 (by kernel_rfl) B v n xs r hr0 hr1 w hown hlen hBw
theorem builder_size : (Try.prog.info? 147).map (·.size) = some 2 := by kernel_rfl
set_option maxHeartbeats 1000000 in
theorem copyCheck_used (b : Nat) (w : World) (h0 : w.cell? ⟨b, 0, none⟩ = some (.pointer (some ⟨b, 0, none⟩))) :
    Calls Try.prog 92 #[.pointer (some ⟨b, 0, none⟩)] w fun e w' => e = .returned (.tuple #[]) ∧ w' = w := by
  obtain ⟨j, hj, _⟩ := Option.map_eq_some_iff.1 builder_size
  have hq := Lib.run_neq_ptr_same (P := Try.prog) (w := w) ⟨b, 0, none⟩ Try.underlying145 hj
  go_enter Try.func92, Try.ntmps92
  go_wp2
  go_end0
  exact ⟨rfl, rfl⟩
set_option maxHeartbeats 1000000 in
theorem copyCheck_fresh (b : Nat) (w : World) (h0 : w.cell? ⟨b, 0, none⟩ = some (.pointer none)) (hsh : w.shape? b = some (147, 2)) (hfz : w.frozen? ⟨b, 0, none⟩ = false) :
    Calls Try.prog 92 #[.pointer (some ⟨b, 0, none⟩)] w fun e w' => e = .returned (.tuple #[]) ∧ w' = w.setCell ⟨b, 0, none⟩ (.pointer (some ⟨b, 0, none⟩)) := by
  obtain ⟨j, hj, hjs⟩ := Option.map_eq_some_iff.1 builder_size
  have c1 := Lib.run_to_unsafe (P := Try.prog) w ⟨b, 0, none⟩ Try.underlying145 Try.underlying158 hj (by rw [hjs]; decide) hsh (Nat.zero_lt_succ 1)
  have c2 := Lib.run_from_unsafe (P := Try.prog) w ⟨b, 0, none⟩ Try.underlying158 Try.underlying145 hj hsh (by kernel_rfl)
  have c3 := run_callFunc_extern (P := Try.prog) Try.func94 (by kernel_rfl) (by kernel_rfl) (by kernel_rfl) (e := Extern.AbiNoEscape.same) (by kernel_rfl) #[.pointer (some ⟨b, 0, none⟩)] w
  rw [Lib.run_noEscape] at c3
  simp only [Result.andThen] at c3
  go_enter Try.func92, Try.ntmps92
  go_wp2
  go_end0
  exact ⟨rfl, rfl⟩
theorem copyCheck_any (B b : Nat) (bs : List Value) (w : World) (h : Lib.IsBuilderF 147 5 B b bs w) :
    Calls Try.prog 92 #[.pointer (some ⟨b, 0, none⟩)] w fun e w' => e = .returned (.tuple #[]) ∧ (Lib.BuilderAtF 147 5 B b (.pointer (some ⟨b, 0, none⟩)) bs w' ∧ Below B w w') := by
  rcases h with h | h
  · refine (copyCheck_fresh b w h.cell0 h.shape h.frozen0).mono ?_
    rintro e w' ⟨rfl, rfl⟩
    exact ⟨rfl, h.used _, (Below.refl B w).setCell (p := ⟨b, 0, none⟩) h.1 _⟩
  · refine (copyCheck_used b w h.cell0).mono ?_
    rintro e w' ⟨rfl, rfl⟩
    exact ⟨rfl, h, Below.refl B _⟩
set_option maxHeartbeats 4000000 in
theorem bwrite_any (B b : Nat) (bs : List Value) (r : Int) (hr0 : -2147483648 ≤ r) (hr1 : r ≤ 2147483647) (w : World) (h : Lib.IsBuilderF 147 5 B b bs w) (hlen : bs.length + 4 ≤ 140737488355328) (hBw : B ≤ w.heap.size) :
    Calls Try.prog 88 #[.pointer (some ⟨b, 0, none⟩), .int .i32 r] w fun e w' => e = .returned (.tuple #[.int .i64 (Lib.runeCells r).length, .nilIface]) ∧ (Lib.BuilderAtF 147 5 B b (.pointer (some ⟨b, 0, none⟩)) (bs ++ Lib.runeCells r) w' ∧ Below B w w') := by
  have hk4 := Lib.runeCells_le r
  go_enter Try.func88, Try.ntmps88
  go_wp2_with fail
  refine (copyCheck_any B b bs _ h).mono ?_
  rintro e w1 ⟨rfl, h1, hb1⟩
  obtain ⟨hB, v, hbk, hown, hne⟩ := h1
  obtain ⟨ao, cap, rfl⟩ : ∃ ao cap, v = .slice ao bs.length cap := by
    rcases hown.2 with ⟨hv, h0⟩ | ⟨g, cap, cur, fz, hv, _⟩
    · exact ⟨none, 0, by rw [hv, h0]⟩
    · exact ⟨_, _, hv⟩
  have c0 : w1.cell? ⟨b, 0, none⟩ = some (.pointer (some ⟨b, 0, none⟩)) := by rw [Lib.cell_of_heap hbk]; rfl
  have c1 : w1.cell? ⟨b, 1, none⟩ = some (.slice ao bs.length cap) := by rw [Lib.cell_of_heap hbk]; rfl
  go_wp2_with (go_at_call 93; refine (appendRune_any B _ bs.length bs r hr0 hr1 _ hown hlen (by have := hb1.size; omega)).mono ?_)
  rintro e w2 ⟨v', rfl, hown', o, hgrow⟩
  have hlt : b < w1.heap.size := by
    rcases Nat.lt_or_ge b w1.heap.size with h' | h'
    · exact h'
    · simp [Array.getElem?_eq_none h'] at hbk
  have hb2 : w2.heap[b]? = some (.cells #[.pointer (some ⟨b, 0, none⟩), .slice ao bs.length cap] 147 (0, 0)) := by
    rw [hgrow.block b (by simp; omega) (fun e => hne e.symm), Lib.alloc_old w1 _ b hlt]
    exact hbk
  have d0 : w2.cell? ⟨b, 0, none⟩ = some (.pointer (some ⟨b, 0, none⟩)) := by rw [Lib.cell_of_heap hb2]; rfl
  have d1 : w2.cell? ⟨b, 1, none⟩ = some (.slice ao bs.length cap) := by rw [Lib.cell_of_heap hb2]; rfl
  have f1 : w2.frozen? ⟨b, 1, none⟩ = false := Lib.frozen_of_heap hb2 1
  obtain ⟨g, cap', rfl⟩ : ∃ g cap', v' = .slice (some ⟨g, 0, none⟩) (bs.length + (Lib.runeCells r).length) cap' := by
    rcases hown'.2 with ⟨_, h0⟩ | ⟨g, cap', cur, fz, hv, _⟩
    · omega
    · exact ⟨g, cap', hv⟩
  go_wp2
  go_ret2
  refine ⟨?_, ?_, ?_⟩
  · have e : ((bs.length : Int) + ((Lib.runeCells r).length : Int) - (bs.length : Int)) = ((Lib.runeCells r).length : Int) := by omega
    simp [e]
  · exact Lib.BuilderAtF.put (T := 147) (e := 5) hB hb2 (bs' := bs ++ Lib.runeCells r) (by simpa using hown') (by decide)
  · exact ((hb1.alloc (by have := hb1.size; omega) _).grown hgrow (by have := hb1.size; simp; omega) (fun k hk => (hown.lt k hk).1)).setCell (p := ⟨b, 1, none⟩) hB _
end Go.Proofs.Ytbbholdadgjelaa
/- text.Text: the program's (split from Tm1, Tm2) -/
namespace Go.Proofs.Ytbbholdadgjelaa
open Go.RowKit
set_option linter.unusedVariables false
set_option maxRecDepth 20000
def encS (r : Int) : ByteArray := ⟨(Lib.encodeRune r).toArray⟩
theorem valid_any (r : Int) (w : World) : Calls Try.prog 87 #[.int .i32 r] w fun e w' => e = .returned (.bool (decide (0 ≤ r ∧ r ≤ 1114111 ∧ (r < 55296 ∨ 57343 < r)))) ∧ w = w' := by
  have hc : r < 0 ∨ (0 ≤ r ∧ r < 55296) ∨ (55296 ≤ r ∧ r ≤ 57343) ∨ (57343 < r ∧ r ≤ 1114111) ∨ 1114111 < r := by omega
  rcases hc with h | h | h | h | h
  · rw [decide_eq_false (by omega)]
    go_enter Try.func87, Try.ntmps87
    go_wp2
    go_ret
    exact ⟨rfl, rfl⟩
  · rw [decide_eq_true (by omega)]
    go_enter Try.func87, Try.ntmps87
    go_wp2
    go_ret
    exact ⟨rfl, rfl⟩
  · rw [decide_eq_false (by omega)]
    go_enter Try.func87, Try.ntmps87
    go_wp2
    go_ret
    exact ⟨rfl, rfl⟩
  · rw [decide_eq_true (by omega)]
    go_enter Try.func87, Try.ntmps87
    go_wp2
    go_ret
    exact ⟨rfl, rfl⟩
  · rw [decide_eq_false (by omega)]
    go_enter Try.func87, Try.ntmps87
    go_wp2
    go_ret
    exact ⟨rfl, rfl⟩
def encL (zs : List Int) : List UInt8 := zs.flatMap Lib.encodeRune
def encB (zs : List Int) : ByteArray := ⟨(encL zs).toArray⟩
def allG (zs : List Int) : Prop := ∀ z ∈ zs, goodP z
instance (zs : List Int) : Decidable (allG zs) := by unfold allG; infer_instance
def textZ (zs : List Int) : ByteArray := if allG zs then encB zs else ⟨#[]⟩
theorem encL_snoc (x : List Int) (r : Int) : encL (x ++ [r]) = encL x ++ Lib.encodeRune r := by simp [encL]
theorem encode_le (r : Int) : (Lib.encodeRune r).length ≤ 4 := by rw [← Lib.runeCells_length]; exact (Lib.runeCells_le r).2
theorem encL_le : ∀ zs : List Int, (encL zs).length ≤ 4 * zs.length
  | [] => by simp [encL]
  | z :: zs => by
    have h1 := encL_le zs
    have h2 := encode_le z
    have h3 : encL (z :: zs) = Lib.encodeRune z ++ encL zs := rfl
    rw [h3, List.length_append, List.length_cons]; omega
theorem encB_snoc (x : List Int) (r : Int) : encB x ++ encS r = encB (x ++ [r]) := by
  apply ByteArray.ext
  simp [encB, encS, encL_snoc]
theorem encB_size (zs : List Int) : (encB zs).size ≤ 4 * zs.length := by
  have := encL_le zs
  simpa [encB, ByteArray.size] using this
theorem byteCells_snoc (x : List Int) (r : Int) : Lib.byteCells (encL x) ++ Lib.runeCells r = Lib.byteCells (encL (x ++ [r])) := by
  rw [encL_snoc, Lib.byteCells_append, Lib.byteCells_encodeRune]
theorem textZ_bad {zs : List Int} (z : Int) (h : z ∈ zs) (hz : ¬ goodP z) : textZ zs = ⟨#[]⟩ ∧ decide (allG zs) = false := by
  have hn : ¬ allG zs := fun k => hz (k z h)
  exact ⟨if_neg hn, decide_eq_false hn⟩
theorem textZ_good {zs : List Int} (h : allG zs) : textZ zs = encB zs ∧ decide (allG zs) = true := ⟨if_pos h, decide_eq_true h⟩
theorem getD_mem' (zs : List Int) (j : Nat) (h : j < zs.length) : zs.getD j 0 ∈ zs := by
  rw [List.getD_eq_getElem?_getD, List.getElem?_eq_getElem h]; simp
set_option maxHeartbeats 1600000 in
theorem text_any (a : Option Addr) (n cap : Nat) (zs : List Int) (w : World) (hh : HoldsI .i32 w a n zs) (hn : n ≤ 1048576) (hr : ∀ z ∈ zs, -2147483648 ≤ z ∧ z ≤ 2147483647) :
    Calls Try.prog 76 #[.slice a n cap] w fun e w' => e = .returned (.tuple #[.string (textZ zs), .bool (decide (allG zs))]) ∧ Below w.heap.size w w' := by
  have hl := hh.len
  go_enter Try.func76, Try.ntmps76
  go_wp2_with fail
  go_loopw [9] (fun cv wr => ∃ j : Nat, j ≤ n ∧ cv = .int .i64 j ∧ Hid (allG (zs.take j)) ∧ Hid (Lib.IsBuilderF 147 5 w.heap.size w.heap.size (Lib.byteCells (encL (zs.take j))) wr) ∧ Hid (Below w.heap.size w wr)) (fun cv _ => n - (intOf cv).toNat)
  case atStart =>
    refine ⟨0, by omega, rfl, Lib.hid (by simp [allG]), Lib.hid (Lib.IsBuilderF.of (Lib.fresh_isBuilder _ _ w)), Lib.hid (below_one _ _)⟩
  case round =>
    obtain ⟨j, hj, rfl, hG, hI, hB⟩ := hrel
    have hs := hB.out.size
    by_cases hlt : j < n
    · obtain ⟨b, o, rfl, hc⟩ := (hh.below hB.out).at (by omega)
      have e1 := hc j hlt
      have hrj := hr _ (getD_mem' zs j (by omega))
      have hmem := getD_mem' zs j (by omega)
      have htk := take_succ_getD zs 0 j (by omega)
      obtain ⟨x, hx⟩ : ∃ x, zs.getD j 0 = x := ⟨_, rfl⟩
      rw [hx] at e1 hrj hmem htk
      have HM := Lib.hid hmem; have HT := Lib.hid htk
      clear hx hmem htk hc
      by_cases hbad : x = 65533
      · subst hbad
        have hb := textZ_bad 65533 HM.out (by unfold goodP; omega)
        have HB := Lib.hid hb
        clear hb
        go_wp2_with fail
        go_ret2
        exact ⟨by rw [HB.out.1, HB.out.2]; rfl, hB.out⟩
      · have hb : (x == 65533) = false := by rw [beq_eq_false_iff_ne]; exact hbad
        have HBD := Lib.hid hbad
        clear hbad
        by_cases hv : 0 ≤ x ∧ x ≤ 1114111 ∧ (x < 55296 ∨ 57343 < x)
        · have hval := fun w => valid_any x w
          rw [decide_eq_true hv] at hval
          have hg : goodP x := ⟨hv.1, hv.2.1, hv.2.2, HBD.out⟩
          have HG := Lib.hid hg; have HV := Lib.hid hval
          clear hv hval hg
          go_wp2_with fail
          refine (HV.out _).mono ?_
          rintro e w' ⟨rfl, rfl⟩
          go_wp2_with fail
          have hlen : (encL (zs.take j)).length ≤ 4 * j := by
            have h1 := encL_le (zs.take j)
            have h2 : (zs.take j).length ≤ j := List.length_take_le _ _
            omega
          refine (bwrite_any w.heap.size w.heap.size _ x hrj.1 hrj.2 _ hI.out (by rw [Lib.byteCells_length]; omega) hs).mono ?_
          rintro e w2 ⟨rfl, hb2, hb3⟩
          rw [byteCells_snoc, ← HT.out] at hb2
          go_wp2_with fail
          go_roundw
          case rel => exact ⟨j + 1, by omega, by go_num, Lib.hid (by rw [HT.out]; intro z hz; rcases List.mem_append.1 hz with hz | hz; exact hG.out z hz; simp at hz; rw [hz]; exact HG.out), Lib.hid (Or.inr hb2), Lib.hid (hB.out.trans hb3)⟩
          case measure => simp [intOf]; omega
        · have hval := fun w => valid_any x w
          rw [decide_eq_false hv] at hval
          have hb2 := textZ_bad x HM.out (fun k => hv ⟨k.1, k.2.1, k.2.2.1⟩)
          have HV := Lib.hid hval; have HB := Lib.hid hb2
          clear hv hval hb2
          go_wp2_with fail
          refine (HV.out _).mono ?_
          rintro e w' ⟨rfl, rfl⟩
          go_wp2_with fail
          go_ret2
          exact ⟨by rw [HB.out.1, HB.out.2]; rfl, hB.out⟩
    · have hjn : zs.take j = zs := List.take_of_length_le (by omega)
      have HJ := Lib.hid hjn
      clear hjn
      go_wp2_with fail
      refine (bstring_any w.heap.size w.heap.size _ _ hI.out hs).mono ?_
      rintro e w2 ⟨rfl, _, hb2, _⟩
      go_wp2_with fail
      go_ret2
      have hg := textZ_good (show allG zs by have := hG.out; rw [HJ.out] at this; exact this)
      exact ⟨by rw [hg.1, hg.2, HJ.out]; rfl, hB.out.trans hb2⟩
end Go.Proofs.Ytbbholdadgjelaa
/- pack: the words that nodes tell, plain; the lister in memory -/
namespace Go.Proofs.Ytbbholdadgjelaa
open Go.RowKit
set_option linter.unusedVariables false
set_option maxRecDepth 20000
/-- a label as a rune -/
def runeL (x : Nat) : Int := IntKind.i32.wrap (x : Int)
def labT (x : Nat) : Tx := textZ [runeL x]
instance allG_dec (zs : List Int) : Decidable (allG zs) := by unfold allG; infer_instance
/-- over a node's edges: is all well, how many beginnings are left, the words -/
def folE (rf : Nat → Tx → Nat → List Tx → Bool × Nat × List Tx) (pre : Tx) : List PE → Nat → List Tx → Bool × Nat × List Tx
  | [], left, ws => (true, left, ws)
  | e :: es, left, ws =>
    if allG [runeL e.1] then
      (if (rf e.2 (pre ++ labT e.1) left ws).1 then folE rf pre es (rf e.2 (pre ++ labT e.1) left ws).2.1 (rf e.2 (pre ++ labT e.1) left ws).2.2 else (false, (rf e.2 (pre ++ labT e.1) left ws).2))
    else (false, left, ws)
def folF (L : List PN) : Nat → Nat → Tx → Nat → List Tx → Bool × Nat × List Tx
  | 0, n, pre, left, ws => (false, left, ws)
  | f + 1, n, pre, left, ws =>
    if L.length ≤ n ∨ left = 0 then (false, left, ws)
    else folE (folF L f) pre (L.getD n ⟨false, []⟩).es (left - 1) (if (L.getD n ⟨false, []⟩).fin then ws ++ [pre] else ws)
theorem folE_left {rf : Nat → Tx → Nat → List Tx → Bool × Nat × List Tx} (h : ∀ n pre left ws, (rf n pre left ws).2.1 ≤ left) (pre : Tx) : ∀ (es : List PE) (left : Nat) (ws : List Tx), (folE rf pre es left ws).2.1 ≤ left
  | [], left, ws => Nat.le_refl _
  | e :: es, left, ws => by
    unfold folE
    split
    · split
      · exact Nat.le_trans (folE_left h pre es _ _) (h _ _ _ _)
      · exact h _ _ _ _
    · exact Nat.le_refl _
theorem folF_left (L : List PN) : ∀ (f n : Nat) (pre : Tx) (left : Nat) (ws : List Tx), (folF L f n pre left ws).2.1 ≤ left
  | 0, n, pre, left, ws => Nat.le_refl _
  | f + 1, n, pre, left, ws => by
    unfold folF
    split
    · exact Nat.le_refl _
    · exact Nat.le_trans (folE_left (folF_left L f) pre _ _ _) (Nat.sub_le _ _)
/-- the lister: the nodes it goes over, how many beginnings are left, the words so far -/
structure FL9 (l : Nat) (NL : List PM) (na : Option Addr) (nc left : Nat) (ws : List Tx) (wa : Option Addr) (wc : Nat) (w : World) : Prop where
  c0 : w.cell? ⟨l, 0, none⟩ = some (.slice na NL.length nc)
  c1 : w.cell? ⟨l, 1, none⟩ = some (.int .i64 left)
  c2 : w.cell? ⟨l, 2, none⟩ = some (.slice wa ws.length wc)
  f : ∀ i, w.frozen? ⟨l, i, none⟩ = false
  o : w.ownsRow (l + 1) 9 1 (.slice wa ws.length wc) ws.length (strsV ws)
  p : PR9 0 NL na nc w
  pl : ∀ k, na = some ⟨k, 0, none⟩ → k < l
  pe : ∀ x ∈ NL, ∀ k, x.ea = some ⟨k, 0, none⟩ → k < l
theorem FL9.below {l : Nat} {NL : List PM} {na : Option Addr} {nc left : Nat} {ws : List Tx} {wa : Option Addr} {wc : Nat} {w w' : World} (h : FL9 l NL na nc left ws wa wc w) (hb : Below w.heap.size w w') : FL9 l NL na nc left ws wa wc w' := by
  have lt := lt_of_cell h.c0
  exact ⟨(hb.cell (p := ⟨l, 0, none⟩) lt).trans h.c0, (hb.cell (p := ⟨l, 1, none⟩) lt).trans h.c1, (hb.cell (p := ⟨l, 2, none⟩) lt).trans h.c2, fun i => (hb.frozen (p := ⟨l, i, none⟩) lt).trans (h.f i), owns_below h.o hb, h.p.turn (T := fun _ => False) (Turn.of_below hb) (fun _ _ x => x) (fun _ _ _ _ x => x), h.pl, h.pe⟩
/-- a beginning fewer -/
theorem FL9.less {l : Nat} {NL : List PM} {na : Option Addr} {nc left left2 : Nat} {ws : List Tx} {wa : Option Addr} {wc : Nat} {w : World} (h : FL9 l NL na nc left ws wa wc w) : FL9 l NL na nc left2 ws wa wc (w.setCell ⟨l, 1, none⟩ (.int .i64 (left2 : Int))) := by
  have t : Turn (fun k => k = l) w (w.setCell ⟨l, 1, none⟩ (.int .i64 (left2 : Int))) := Turn.setCell rfl
  exact ⟨(cset_ne (by omega)).trans h.c0, cset_at h.c1, (cset_ne (by omega)).trans h.c2, fun i => fset_any.trans (h.f i), own_turn9 h.o t (fun k e e2 => by have := (h.o.lt k (by rw [e]; rfl)).1; omega), h.p.turn t (fun k e e2 => by have := h.pl k e; omega) (fun x hx k e e2 => by have := h.pe x hx k e; omega), h.pl, h.pe⟩
/-- a word more -/
theorem FL9.word {l : Nat} {NL : List PM} {na : Option Addr} {nc left : Nat} {ws : List Tx} {wa : Option Addr} {wc g c : Nat} {t : Tx} {w w8 : World} {ob : Obj} (h : FL9 l NL na nc left ws wa wc w) (hown : w8.ownsRow (l + 1) 9 1 (.slice (some ⟨g, 0, none⟩) (ws.length + 1) c) (ws.length + 1) (strsV ws ++ [.string t])) (hg : (w.alloc ob).grownBy w8 (Value.slice wa ws.length wc).ownBlock) (hat : (Value.slice wa ws.length wc).ownBlock = some g ∨ g = (w.alloc ob).heap.size) :
    FL9 l NL na nc left (ws ++ [t]) (some ⟨g, 0, none⟩) c (w8.setCell ⟨l, 2, none⟩ (.slice (some ⟨g, 0, none⟩) (ws.length + 1) c)) ∧ Below l w (w8.setCell ⟨l, 2, none⟩ (.slice (some ⟨g, 0, none⟩) (ws.length + 1) c)) := by
  have ll := lt_of_cell h.c0
  have hz : (w.alloc ob).heap.size = w.heap.size + 1 := by simp
  have nb : ∀ k, some k = (Value.slice wa ws.length wc).ownBlock → l + 1 ≤ k := fun k e => (h.o.lt k e.symm).1
  have gl : l < g := by
    rcases hat with e | e
    · have := nb g e.symm; omega
    · omega
  have t1 : Turn (fun k => l + 1 ≤ k) w w8 := (Turn.alloc _ w ob).trans ⟨hg.os, hg.tape, hg.output, hg.size, fun k hk hn => hg.block k hk (fun e => hn (nb k e))⟩
  have t2 : Turn (fun k => l ≤ k) w (w8.setCell ⟨l, 2, none⟩ (.slice (some ⟨g, 0, none⟩) (ws.length + 1) c)) := Turn.trans ⟨t1.os, t1.tape, t1.output, t1.size, fun k hk hn => t1.block k hk (by omega)⟩ (Turn.setCell (Nat.le_refl l))
  have hc : ∀ i, w8.cell? ⟨l, i, none⟩ = w.cell? ⟨l, i, none⟩ := fun i => t1.cell ll (by omega)
  have el : (ws ++ [t]).length = ws.length + 1 := by rw [List.length_append]; rfl
  refine ⟨⟨(cset_ne (by omega)).trans ((hc 0).trans h.c0), (cset_ne (by omega)).trans ((hc 1).trans h.c1), ?_, fun i => fset_any.trans ((t1.frozen ll (by omega)).trans (h.f i)), ?_, h.p.turn t2 (fun k e e2 => by have := h.pl k e; omega) (fun x hx k e e2 => by have := h.pe x hx k e; omega), h.pl, h.pe⟩, t2.below (fun k hk => hk) (Nat.le_of_lt ll)⟩
  · rw [el]; exact cset_at ((hc 2).trans h.c2)
  · rw [el, show strsV (ws ++ [t]) = strsV ws ++ [.string t] by simp [strsV]]
    exact gowns_block hown (fun q e => by
      injection e with e; injection e with e
      obtain rfl : g = q := e
      exact Below.heap_setCell _ _ _ _ (show g ≠ l by omega))
end Go.Proofs.Ytbbholdadgjelaa
/- pack: follow -/
namespace Go.Proofs.Ytbbholdadgjelaa
open Go.RowKit
set_option linter.unusedVariables false
set_option maxRecDepth 20000
theorem strL_info : (Try.prog.info? 9).map (fun i => (i.zero, i.size, i.bytes)) = some (some (.string ⟨#[]⟩), 1, 16) := by kernel_rfl
theorem FL9.at {l : Nat} {NL : List PM} {na : Option Addr} {nc left : Nat} {ws : List Tx} {wa : Option Addr} {wc : Nat} {w : World} (h : FL9 l NL na nc left ws wa wc w) {i : Nat} (hi : i < NL.length) : ∃ q, na = some ⟨q, 0, none⟩ ∧ w.cell? ⟨q, i * 2, none⟩ = some (.bool (NL.getD i pm0).fin) ∧ w.cell? ⟨q, i * 2 + 1, none⟩ = some (.slice (NL.getD i pm0).ea (NL.getD i pm0).es.length (NL.getD i pm0).ec) := by
  obtain ⟨q, cap', hv⟩ := Joins.ownsRow_form h.p.o (by omega)
  simp only [Value.slice.injEq] at hv
  obtain ⟨hv, -, -⟩ := hv
  subst hv
  obtain ⟨v0, v1⟩ := pmV_at NL i hi
  exact ⟨q, rfl, (h.p.o.cellAt (i * 2) (by omega)).trans v0, (h.p.o.cellAt (i * 2 + 1) (by omega)).trans v1⟩
theorem pe_at {w : World} {B c : Nat} {a : Option Addr} {es : List PE} (h : w.ownsRow B 129 2 (.slice a es.length c) es.length (peV es)) {i : Nat} (hi : i < es.length) : ∃ q, a = some ⟨q, 0, none⟩ ∧ w.cell? ⟨q, i * 2, none⟩ = some (.int .i64 ((es.getD i (0, 0)).1 : Int)) ∧ w.cell? ⟨q, i * 2 + 1, none⟩ = some (.int .i64 ((es.getD i (0, 0)).2 : Int)) := by
  obtain ⟨q, cap', hv⟩ := Joins.ownsRow_form h (by omega)
  simp only [Value.slice.injEq] at hv
  obtain ⟨hv, -, -⟩ := hv
  subst hv
  obtain ⟨v0, v1⟩ := peV_at es i hi
  exact ⟨q, rfl, (h.cellAt (i * 2) (by omega)).trans v0, (h.cellAt (i * 2 + 1) (by omega)).trans v1⟩
theorem folE_few {rf : Nat → Tx → Nat → List Tx → Bool × Nat × List Tx} (h : ∀ n pre left ws, (rf n pre left ws).2.2.length + (rf n pre left ws).2.1 ≤ ws.length + left) (pre : Tx) : ∀ (es : List PE) (left : Nat) (ws : List Tx), (folE rf pre es left ws).2.2.length + (folE rf pre es left ws).2.1 ≤ ws.length + left
  | [], left, ws => Nat.le_refl _
  | e :: es, left, ws => by
    unfold folE
    split
    · split
      · exact Nat.le_trans (folE_few h pre es _ _) (h _ _ _ _)
      · exact h _ _ _ _
    · exact Nat.le_refl _
theorem folF_few (L : List PN) : ∀ (f n : Nat) (pre : Tx) (left : Nat) (ws : List Tx), (folF L f n pre left ws).2.2.length + (folF L f n pre left ws).2.1 ≤ ws.length + left
  | 0, n, pre, left, ws => Nat.le_refl _
  | f + 1, n, pre, left, ws => by
    unfold folF
    split
    · exact Nat.le_refl _
    · rename_i h
      refine Nat.le_trans (folE_few (folF_few L f) pre _ _ _) ?_
      split
      · rw [List.length_append, List.length_singleton]; omega
      · omega
theorem labT_size (x : Nat) : (labT x).size ≤ 4 := by
  unfold labT textZ
  split
  · have := encB_size [runeL x]
    simpa using this
  · exact Nat.zero_le _
/-- what follow does: the answer, and the lister behind it -/
def LisP (l : Nat) (NL : List PM) (na : Option Addr) (nc : Nat) (w : World) (r : Bool × Nat × List Tx) (e : Ending) (w' : World) : Prop := e = .returned (.bool r.1) ∧ (∃ wa wc, FL9 l NL na nc r.2.1 r.2.2 wa wc w') ∧ Below l w w'
def LisAny (l : Nat) (NL : List PM) (na : Option Addr) (nc f : Nat) : Prop := ∀ (n : Nat) (pre : Tx) (left : Nat) (ws : List Tx) (wa : Option Addr) (wc : Nat) (w : World), FL9 l NL na nc left ws wa wc w → left ≤ f → left ≤ 1000 → ws.length + left ≤ 1000 → pre.size + 4 * left ≤ 10000 → n ≤ 1000000 →
    Calls Try.prog 60 #[.pointer (some ⟨l, 0, none⟩), .int .i64 (n : Int), .string pre] w (LisP l NL na nc w (folF (NL.map pmP) (f + 1) n pre left ws))
end Go.Proofs.Ytbbholdadgjelaa
/- pack: follow, its walk -/
namespace Go.Proofs.Ytbbholdadgjelaa
open Go.RowKit
set_option linter.unusedVariables false
set_option maxRecDepth 20000
theorem LisP.next {l : Nat} {NL : List PM} {na : Option Addr} {nc : Nat} {w w2 : World} (hb : Below l w w2) (hl : l ≤ w.heap.size) {r : Bool × Nat × List Tx} {e : Ending} {w' : World} (h : LisP l NL na nc w2 r e w') : LisP l NL na nc w r e w' := ⟨h.1, h.2.1, hb.trans h.2.2⟩
theorem folF_go (L : List PN) (f n : Nat) (pre : Tx) (left : Nat) (ws : List Tx) (h : ¬ (L.length ≤ n ∨ left = 0)) : folF L (f + 1) n pre left ws = folE (folF L f) pre (L.getD n ⟨false, []⟩).es (left - 1) (if (L.getD n ⟨false, []⟩).fin then ws ++ [pre] else ws) := by
  conv => lhs; unfold folF
  rw [if_neg h]
theorem FL9.kept {l : Nat} {NL : List PM} {na : Option Addr} {nc left : Nat} {ws : List Tx} {wa : Option Addr} {wc : Nat} {w w8 : World} {ob : Obj} (h : FL9 l NL na nc left ws wa wc w) (hg : (w.alloc ob).grownBy w8 (Value.slice wa ws.length wc).ownBlock) : w8.cell? ⟨l, 2, none⟩ = some (.slice wa ws.length wc) ∧ w8.frozen? ⟨l, 2, none⟩ = false := by
  have ll := lt_of_cell h.c0
  have hz : (w.alloc ob).heap.size = w.heap.size + 1 := by simp
  have ne : some l ≠ (Value.slice wa ws.length wc).ownBlock := fun e => by have := (h.o.lt l e.symm).1; omega
  exact ⟨(hg.cell_far ⟨l, 2, none⟩ (by rw [hz]; exact Nat.lt_succ_of_lt ll) ne).trans ((cell_alloc_old ll).trans h.c2), (hg.frozen_far ⟨l, 2, none⟩ (by rw [hz]; exact Nat.lt_succ_of_lt ll) ne).trans (((below_one w ob).frozen (p := ⟨l, 2, none⟩) ll).trans (h.f 2))⟩
theorem holdsI_lit1G9 (w : World) (x : Int) (e : TypeId) (fr : Nat × Nat) : HoldsI .i32 (w.alloc (.cells #[.int .i32 x] e fr)) (some ⟨w.heap.size, 0, none⟩) 1 [x] := by
  refine ⟨rfl, fun _ => ⟨w.heap.size, 0, rfl, fun i hi => ?_⟩⟩
  obtain rfl : i = 0 := by omega
  rw [World.cell?_alloc_mark]; rfl
def GoodPM (NL : List PM) : Prop := ∀ x ∈ NL, ∀ e ∈ x.es, e.1 < 4294967296 ∧ e.2 < 65536 
set_option maxHeartbeats 6400000 in
set_option maxRecDepth 100000 in
theorem fol_step (l : Nat) (NL : List PM) (na : Option Addr) (nc f : Nat) (hG : GoodPM NL) (hlen : NL.length ≤ 70000) (hes : ∀ x ∈ NL, x.es.length ≤ 70000) (IH : ∀ f', f = f' + 1 → LisAny l NL na nc f') : LisAny l NL na nc f := by
  intro n pre left ws wa wc w h hlf hl1000 hws hpre hn
  obtain ⟨i0, hi, hz0, hz1, hz2⟩ := info_parts strL_info
  have H := Lib.hid h
  have IHH := Lib.hid IH
  have HG := Lib.hid hG
  have ll := lt_of_cell h.c0
  have c0 := h.c0
  have c1 := h.c1
  have f1 := h.f 1
  obtain ⟨N, hN⟩ : ∃ N, NL.length = N := ⟨_, rfl⟩
  have HN := Lib.hid hN
  rw [hN] at c0 hlen
  have REF := Lib.hid (show (N ≤ n ∨ left = 0) → folF (NL.map pmP) (f + 1) n pre left ws = (false, left, ws) from fun h => by
    unfold folF
    rw [if_pos (by rw [List.length_map, HN.out]; exact h)])
  have BF := Lib.hid (Below.refl l w)
  clear h hN IH
  by_cases hge : N ≤ n
  · have d1 : decide ((n : Int) ≥ (N : Int)) = true := decide_eq_true (by omega)
    have d2 : decide (N ≤ n) = true := decide_eq_true hge
    rw [REF.out (Or.inl hge)]
    clear hge
    go_enter Try.func60, Try.ntmps60
    go_wp2_with fail
    go_ret
    exact ⟨rfl, ⟨wa, wc, H.out⟩, BF.out⟩
  have d1 : decide ((n : Int) ≥ (N : Int)) = false := decide_eq_false (by omega)
  have d2 : decide (N ≤ n) = false := decide_eq_false hge
  by_cases h0 : left = 0
  · rw [REF.out (Or.inr h0)]
    have e1 : ((left : Int) == 0) = true := by simp [h0]
    have HL0 := Lib.hid h0
    clear h0
    go_enter Try.func60, Try.ntmps60
    go_wp2_with fail
    go_ret
    exact ⟨rfl, ⟨wa, wc, H.out⟩, BF.out⟩
  have e1 : ((left : Int) == 0) = false := by rw [beq_eq_false_iff_ne]; omega
  obtain ⟨k, hk⟩ : ∃ k, left - 1 = k := ⟨_, rfl⟩
  have e2 : (left : Int) - 1 = (k : Int) := by omega
  obtain ⟨f', hf'⟩ : ∃ f', f = f' + 1 := ⟨f - 1, by omega⟩
  have IF := Lib.hid (IHH.out f' hf')
  obtain ⟨x, hx⟩ : ∃ x, NL.getD n pm0 = x := ⟨_, rfl⟩
  have HX := Lib.hid hx
  have hmem : x ∈ NL := by
    have := HN.out
    rw [← hx, List.getD_eq_getElem?_getD, List.getElem?_eq_getElem (show n < NL.length by omega)]
    exact List.getElem_mem _
  have GX := Lib.hid (HG.out x hmem)
  have hml := hes x hmem
  obtain ⟨R, hR⟩ : ∃ R, folF (NL.map pmP) (f + 1) n pre left ws = R := ⟨_, rfl⟩
  have HR := Lib.hid (show folE (folF (NL.map pmP) (f' + 1)) pre x.es k (if x.fin then ws ++ [pre] else ws) = R from by
    have h2 : (NL.map pmP).getD n ⟨false, []⟩ = pmP x := by
      rw [← hx, List.getD_eq_getElem?_getD, List.getD_eq_getElem?_getD, List.getElem?_map, List.getElem?_eq_getElem (show n < NL.length by rw [HN.out]; omega)]; rfl
    rw [← hR, hf', folF_go _ _ _ _ _ _ (by rw [List.length_map, HN.out]; omega), h2, hk]; rfl)
  rw [hR]
  have L1 := Lib.hid (show FL9 l NL na nc k ws wa wc (w.setCell ⟨l, 1, none⟩ (.int .i64 (k : Int))) from H.out.less)
  obtain ⟨q, hq, y0, y1⟩ := L1.out.at (show n < NL.length by rw [HN.out]; omega)
  subst hq
  rw [hx] at y0 y1
  obtain ⟨fin, hfin⟩ : ∃ b, x.fin = b := ⟨_, rfl⟩
  obtain ⟨m, hm⟩ : ∃ m, x.es.length = m := ⟨_, rfl⟩
  obtain ⟨ea, hea⟩ : ∃ v, x.ea = v := ⟨_, rfl⟩
  have HEA := Lib.hid hea
  rw [hfin] at y0 HR
  rw [hm, hea] at y1
  rw [hm] at hml
  have HM := Lib.hid hm
  have BW := Lib.hid (show Below l w (w.setCell ⟨l, 1, none⟩ (.int .i64 (k : Int))) from (Below.refl l w).setCell (p := ⟨l, 1, none⟩) (Nat.le_refl l) _)
  have HMEM := Lib.hid hmem
  have c0' := L1.out.c0
  rw [HN.out] at c0'
  have c2' := L1.out.c2
  have HFK := Lib.hid hf'
  have HK := Lib.hid hk
  have hnN : n < N := by omega
  have n1 : (0 : Int) ≤ (n : Int) := by omega
  have n2 : (n : Int) < (N : Int) := by omega
  clear REF IHH hf' hk hx hmem hR hm hfin hge h0 hea
  go_enter Try.func60, Try.ntmps60
  go_upto_region 4 with fail
  generalize w.setCell ⟨l, 1, none⟩ (.int .i64 (k : Int)) = w1 at *
  go_upto_if 39 with fail
  cases fin
  case' true =>
    go_upto_region 6 with (at_builtin; refine wpList_append_lies _ rfl (.tmp 44) (.tmp 46) 22 rfl (l + 1) 9 i0 _ 1 16 Try.underlying22 hi hz0 hz1 hz2 rfl (by omega) (.slice wa ws.length wc) ws.length (strsV ws) (by rfl) (L1.out.o.alloc _) ⟨w1.heap.size, 0, none⟩ 1 1 [.string pre] (by rfl) (by rfl) (World.news_of_block (cs := #[.string pre]) (t := 9) (fr := (0, 0)) (heap_alloc_new w1 _)) (by simp [Value.oneCell']) (by omega) (by unfold maxLen; omega) (by omega) (by have := lt_of_cell L1.out.c0; simp; omega) (w1.heap.size + 1) (by simp) ?_; intro g8 c8 w8 hown8 hgrow8 hat8 hlt8; obtain ⟨z0, z1⟩ := L1.out.kept hgrow8)
    have W8 := L1.out.word hown8 hgrow8 (hat8.imp id (fun e => by rw [e]; simp))
    obtain ⟨w2, hw2⟩ : ∃ v, w8.setCell ⟨l, 2, none⟩ (.slice (some ⟨g8, 0, none⟩) (ws.length + 1) c8) = v := ⟨_, rfl⟩
    rw [hw2] at W8 ⊢
    obtain ⟨ws1, hws1⟩ : ∃ v, ws ++ [pre] = v := ⟨_, rfl⟩
    obtain ⟨wa1, hwa1⟩ : ∃ v : Option Addr, some (⟨g8, 0, none⟩ : Addr) = v := ⟨_, rfl⟩
    obtain ⟨wc1, hwc1⟩ : ∃ v, c8 = v := ⟨_, rfl⟩
    have L2 := Lib.hid (show FL9 l NL (some ⟨q, 0, none⟩) nc k ws1 wa1 wc1 w2 from by rw [← hws1, ← hwa1, ← hwc1]; exact W8.1)
    have B2 := Lib.hid (show Below l w w2 from BW.out.trans W8.2)
    have HR2 := Lib.hid (show folE (folF (NL.map pmP) (f' + 1)) pre x.es k ws1 = R from by rw [← hws1, ← HR.out]; rfl)
    have hwl : ws1.length + k ≤ 1000 := by rw [← hws1, List.length_append, List.length_singleton]; omega
    clear hown8 hgrow8 hat8 hlt8 z0 z1 W8 hw2 hws1 hwa1 hwc1
  case' false =>
    go_upto_region 6 with fail
    obtain ⟨w2, hw2⟩ : ∃ v, w1 = v := ⟨_, rfl⟩
    obtain ⟨ws1, hws1⟩ : ∃ v, ws = v := ⟨_, rfl⟩
    obtain ⟨wa1, hwa1⟩ : ∃ v, wa = v := ⟨_, rfl⟩
    obtain ⟨wc1, hwc1⟩ : ∃ v, wc = v := ⟨_, rfl⟩
    have L2 := Lib.hid (show FL9 l NL (some ⟨q, 0, none⟩) nc k ws1 wa1 wc1 w2 from by rw [← hws1, ← hwa1, ← hwc1, ← hw2]; exact L1.out)
    have B2 := Lib.hid (show Below l w w2 from by rw [← hw2]; exact BW.out)
    have HR2 := Lib.hid (show folE (folF (NL.map pmP) (f' + 1)) pre x.es k ws1 = R from by rw [← hws1, ← HR.out]; rfl)
    have hwl : ws1.length + k ≤ 1000 := by rw [← hws1]; omega
    rw [hw2]
    clear hw2 hws1 hwa1 hwc1
  all_goals
    clear L1 BW HR y0 y1 c0' c2' c0 c1 f1 ll H
    obtain ⟨qn, hq2, -, u1⟩ := L2.out.at (show n < NL.length by rw [HN.out]; exact hnN)
    injection hq2 with hq2
    injection hq2 with hq2
    subst hq2
    rw [HX.out, HM.out, HEA.out] at u1
    have u0 := L2.out.c0
    rw [HN.out] at u0
    go_wp2_with fail
    go_loopw [59] (fun iv wr => ∃ (j left2 : Nat) (ws2 : List Tx) (wa2 : Option Addr) (wc2 : Nat), j ≤ m ∧ iv = .int .i64 j ∧ left2 ≤ k ∧ ws2.length + left2 ≤ 1000 ∧ Hid (folE (folF (NL.map pmP) (f' + 1)) pre (x.es.drop j) left2 ws2 = R) ∧ Hid (FL9 l NL (some ⟨q, 0, none⟩) nc left2 ws2 wa2 wc2 wr) ∧ Hid (Below l w wr)) (fun iv _ => m - (intOf iv).toNat)
    case atStart => exact ⟨0, k, ws1, wa1, wc1, by omega, rfl, by omega, hwl, Lib.hid (by rw [List.drop_zero]; exact HR2.out), L2, B2⟩
    case round =>
      clear L2 B2 HR2 u0 u1
      obtain ⟨j, left2, ws2, wa2, wc2, hj, rfl, hl2, hw2, hE, hL, hB⟩ := hrel
      by_cases hlt : j < m
      · obtain ⟨q2, hq2, v0, v1⟩ := pe_at (hL.out.p.e x HMEM.out) (i := j) (by rw [HM.out]; exact hlt)
        rw [HEA.out] at hq2
        subst hq2
        obtain ⟨⟨y1, y2⟩, hy⟩ : ∃ y, x.es.getD j (0, 0) = y := ⟨_, rfl⟩
        rw [hy] at v0 v1
        simp only at v0 v1
        have DJ := Lib.hid (show x.es.drop j = (y1, y2) :: x.es.drop (j + 1) from by
          rw [List.drop_eq_getElem_cons (show j < x.es.length by rw [HM.out]; exact hlt), ← hy, List.getD_eq_getElem?_getD, List.getElem?_eq_getElem (show j < x.es.length by rw [HM.out]; exact hlt)]; rfl)
        have hy12 := GX.out (y1, y2) (by
          have hjx : j < x.es.length := by rw [HM.out]; exact hlt
          rw [← hy, List.getD_eq_getElem?_getD, List.getElem?_eq_getElem hjx]; exact List.getElem_mem _)
        simp only at hy12
        obtain ⟨yb1, yb2⟩ := hy12
        have n3 : (0 : Int) ≤ (j : Int) := by omega
        have n4 : (j : Int) < (m : Int) := by omega
        obtain ⟨ρ, hρ⟩ : ∃ r, wrap32 (y1 : Int) = r := ⟨_, rfl⟩
        have HRO := Lib.hid (show runeL y1 = ρ from by unfold runeL; rw [IntWalk.i32_left]; exact hρ)
        clear hy
        have hρb : -2147483648 ≤ ρ ∧ ρ ≤ 2147483647 := by
          rw [← hρ]
          unfold wrap32
          omega
        obtain ⟨S, hS⟩ : ∃ S, textZ [ρ] = S := ⟨_, rfl⟩
        have HLT := Lib.hid (show labT y1 = S from by unfold labT; rw [HRO.out, hS])
        have hSz : S.size ≤ 4 := by rw [← HLT.out]; exact labT_size y1
        have CT := Lib.hid (text_any (some ⟨(wr.alloc (.cells #[.int .i64 (y1 : Int), .int .i64 (y2 : Int)] 129)).heap.size, 0, none⟩) 1 1 [ρ] ((wr.alloc (.cells #[.int .i64 (y1 : Int), .int .i64 (y2 : Int)] 129)).alloc (.cells #[.int .i32 ρ] 21)) (holdsI_lit1G9 _ ρ 21 (0, 0)) (by decide) (by
          intro z hz
          simp only [List.mem_singleton] at hz
          rw [hz]; exact hρb))
        have L10 := Lib.hid ((hL.out.below (below_one wr (.cells #[.int .i64 (y1 : Int), .int .i64 (y2 : Int)] 129))).below (below_one _ (.cells #[.int .i32 ρ] 21)))
        have B10 := Lib.hid (show Below l w ((wr.alloc (.cells #[.int .i64 (y1 : Int), .int .i64 (y2 : Int)] 129)).alloc (.cells #[.int .i32 ρ] 21)) from (hB.out.alloc (Nat.le_of_lt (Nat.lt_of_lt_of_le (lt_of_cell hL.out.c0) (Nat.le_refl _))) _).alloc (Nat.le_of_lt (Nat.lt_of_lt_of_le (lt_of_cell hL.out.c0) (below_one wr _).size)) _)
        rw [hS] at CT
        rw [show (wr.alloc (.cells #[.int .i64 (y1 : Int), .int .i64 (y2 : Int)] 129)).heap.size = wr.heap.size + 1 by simp] at CT
        clear hL hB hS hρb
        by_cases hg : allG [ρ]
        · rw [decide_eq_true hg] at CT
          obtain ⟨R', hR'⟩ : ∃ r, folF (NL.map pmP) (f' + 1) y2 (pre ++ S) left2 ws2 = r := ⟨_, rfl⟩
          have NX := Lib.hid (show (if R'.1 then folE (folF (NL.map pmP) (f' + 1)) pre (x.es.drop (j + 1)) R'.2.1 R'.2.2 else (false, R'.2)) = R from by
            rw [← hE.out, DJ.out, ← hR']
            simp only [folE, HRO.out, HLT.out, if_pos hg])
          have hleft : R'.2.1 ≤ left2 := by rw [← hR']; exact folF_left _ _ _ _ _ _
          have hfew : R'.2.2.length + R'.2.1 ≤ ws2.length + left2 := by rw [← hR']; exact folF_few _ _ _ _ _ _
          obtain ⟨ok, lf, wz⟩ := R'
          simp only at hleft hfew
          clear hg
          subst hρ
          go_wp2_with fail
          with_reducible refine CT.out.mono ?_
          rintro e w11 ⟨rfl, hb11⟩
          have L11 := Lib.hid (L10.out.below hb11)
          have B11 := Lib.hid (B10.out.trans (hb11.mono (Nat.le_trans (Nat.le_of_lt (lt_of_cell L10.out.c0)) (Nat.le_refl _))))
          have CI := Lib.hid (IF.out y2 (pre ++ S) left2 ws2 wa2 wc2 w11 L11.out (by have := HFK.out; have := HK.out; omega) (by omega) (by omega) (by rw [ByteArray.size_append]; have := HK.out; omega) (by omega))
          rw [hR'] at CI
          have y4 := (hb11.cell (p := ⟨wr.heap.size, 1, none⟩) (by simp; omega)).trans ((cell_alloc_old (by simp)).trans (by rw [World.cell?_alloc_mark]; rfl : (wr.alloc (.cells #[.int .i64 (y1 : Int), .int .i64 (y2 : Int)] 129)).cell? ⟨wr.heap.size, 1, none⟩ = some (.int .i64 (y2 : Int))))
          clear hb11 CT L10 B10 hR'
          go_wp2_with fail
          with_reducible refine CI.out.mono ?_
          rintro e w12 ⟨rfl, ⟨wa3, wc3, L12⟩, b12⟩
          have H12 := Lib.hid L12
          have B12 := Lib.hid (B11.out.trans b12)
          clear L12 b12 CI y4
          cases ok with
          | true =>
            have NX2 := Lib.hid (show folE (folF (NL.map pmP) (f' + 1)) pre (x.es.drop (j + 1)) lf wz = R from NX.out)
            go_wp2_with fail
            go_roundw
            case rel => exact ⟨j + 1, lf, wz, wa3, wc3, by omega, by go_num, by omega, by omega, NX2, H12, B12⟩
            case measure => simp [intOf] <;> omega
          | false =>
            have NX2 := Lib.hid (show (false, lf, wz) = R from NX.out)
            go_wp2_with fail
            go_ret
            rw [← NX2.out]
            exact ⟨rfl, ⟨wa3, wc3, H12.out⟩, B12.out⟩
        · rw [decide_eq_false hg] at CT
          have NX := Lib.hid (show (false, left2, ws2) = R from by
            rw [← hE.out, DJ.out]
            simp only [folE, HRO.out, if_neg hg])
          clear hg
          subst hρ
          go_wp2_with fail
          with_reducible refine CT.out.mono ?_
          rintro e w11 ⟨rfl, hb11⟩
          have L11 := Lib.hid (L10.out.below hb11)
          have B11 := Lib.hid (B10.out.trans (hb11.mono (Nat.le_trans (Nat.le_of_lt (lt_of_cell L10.out.c0)) (Nat.le_refl _))))
          clear hb11 CT L10 B10
          go_wp2_with fail
          go_ret
          rw [← NX.out]
          exact ⟨rfl, ⟨wa2, wc2, L11.out⟩, B11.out⟩
      · obtain rfl : j = m := by omega
        have ED := Lib.hid (show (true, left2, ws2) = R from by
          rw [← hE.out, show x.es.drop j = [] from List.drop_of_length_le (by rw [HM.out]; exact Nat.le_refl _)]; rfl)
        go_wp2_with fail
        go_ret
        rw [← ED.out]
        exact ⟨rfl, ⟨wa2, wc2, hL.out⟩, hB.out⟩
end Go.Proofs.Ytbbholdadgjelaa
/- graph: Next, Has -/
namespace Go.Proofs.Ytbbholdadgjelaa
open Go.RowKit
set_option linter.unusedVariables false
set_option maxRecDepth 20000
def findE (r : Int) : List EdP → Int × Bool
  | [] => (0, false)
  | e :: l => if e.r = r then (e.dst, true) else findE r l
theorem findE_at (r : Int) : ∀ (es : List EdP) (j : Nat), j < es.length → (∀ x ∈ es.take j, x.r ≠ r) → (es.getD j ed0).r = r → findE r es = ((es.getD j ed0).dst, true)
  | [], j, h, _, _ => by simp at h
  | e :: l, 0, _, _, h => by
    have h' : e.r = r := h
    rw [findE, if_pos h']; rfl
  | e :: l, j + 1, h, ha, hr => by
    have h' : e.r ≠ r := ha e (by simp)
    rw [findE, if_neg h']
    exact findE_at r l j (by simpa using h) (fun x hx => ha x (by simp [hx])) hr
theorem findE_none (r : Int) : ∀ (es : List EdP), (∀ x ∈ es, x.r ≠ r) → findE r es = (0, false)
  | [], _ => rfl
  | e :: l, h => by
    rw [findE, if_neg (h e (by simp))]
    exact findE_none r l (fun x hx => h x (by simp [hx]))
def nextG (st : List GN) (n r : Int) : Int × Bool := findE r (edgesG st n)
theorem take_ed (l : List EdP) (j : Nat) (h : j < l.length) : l.take (j + 1) = l.take j ++ [l.getD j ed0] := by
  rw [List.take_add_one, List.getElem?_eq_getElem h, List.getD_eq_getElem?_getD, List.getElem?_eq_getElem h]; rfl
/-- where a text leads from a node on -/
def walkG (st : List GN) : List Nat → Int → Option Int
  | [], n => some n
  | r :: l, n => if (nextG st n (r : Int)).2 then walkG st l (nextG st n (r : Int)).1 else none
def endG (st : List GN) : Option Int → Bool
  | some n => finG st n
  | none => false
def hasW (st : List GN) (rs : List Nat) : Bool := endG st (walkG st rs 0)
end Go.Proofs.Ytbbholdadgjelaa
/- graph: Has -/
namespace Go.Proofs.Ytbbholdadgjelaa
open Go.RowKit
set_option linter.unusedVariables false
set_option maxRecDepth 20000
end Go.Proofs.Ytbbholdadgjelaa
/- two lists of api.Edge: held against each other -/
namespace Go.Proofs.Ytbbholdadgjelaa
open Go.RowKit
set_option linter.unusedVariables false
set_option maxRecDepth 20000
theorem ssEdges (x : ByteArray) : (x.toList == x.toList) = true := by simp
end Go.Proofs.Ytbbholdadgjelaa
