/- texts joined -/
import Derived.Test.YtbbholdadgjelaaGreatPkB
import Derived.Deep.RegionHeld3
import Derived.Test.YtbbholdadgjelaaGreatPkA
import Derived.WalkKit
import Derived.Test.YtbbholdadgjelaaGreatChecked
import Derived.WalkLawsBesides
import Derived.Outline
import Derived.SliceStrings
import Derived.Deep.QuietTactic
import Derived.BigQuiet
import Derived.Deep.DeepCutAuto
import Derived.Deep.RegionWith
import Derived.Deep.RegionLaw
import Derived.Deep.AppendLies
import Derived.Laws.ResultCell
import Derived.Lib.AppendStr
import Derived.Lib.Strings
import Derived.Lib.ConvBytes
import Derived.Laws.BytesArg
import Derived.Lib.SlBytesRow
import Derived.Shelf.Lay
import Derived.Shelf.LaySoft
import Derived.Shelf.Strings.Builder1
import Derived.Shelf.Strings.BuilderK
import Derived.Shelf.Strings.BuilderRune
import Derived.Shelf.Utf8.AppendRune
import Derived.Lib.RuneBytes
import Derived.WalkSpells
import Derived.Laws.RangeAny
/- contract of part.Good -/
namespace Go.Proofs.YtbbholdadgjelaaGreat
open Go.RowKit
set_option linter.unusedVariables false
set_option maxRecDepth 20000
def SortedK (l : List KV) : Prop := l.Pairwise fun a b => ordK a b < 0
instance (l : List KV) : Decidable (SortedK l) := by unfold SortedK; infer_instance
def adjK : List KV → Prop
  | x :: y :: l => ordK x y < 0 ∧ adjK (y :: l)
  | _ => True
theorem adjK_sorted : ∀ {l : List KV}, adjK l ↔ SortedK l
  | [] => by simp [adjK, SortedK]
  | [x] => by simp [adjK, SortedK]
  | x :: y :: l => by
    have ih := adjK_sorted (l := y :: l)
    constructor
    · rintro ⟨h1, h2⟩
      have h3 := ih.1 h2
      refine List.pairwise_cons.2 ⟨fun z hz => ?_, h3⟩
      rcases List.mem_cons.1 hz with e | e
      · rw [e]; exact h1
      · exact ordK_trans h1 ((List.pairwise_cons.1 h3).1 z e)
    · intro h
      obtain ⟨h1, h2⟩ := List.pairwise_cons.1 h
      exact ⟨h1 y (List.mem_cons_self ..), ih.2 h2⟩
theorem adjK_iff (l : List KV) : SortedK l ↔ ∀ i, i + 1 < l.length → ordK (l.getD i k0) (l.getD (i + 1) k0) < 0 := by
  rw [← adjK_sorted]
  induction l with
  | nil => simp [adjK]
  | cons x l ih =>
    cases l with
    | nil => simp [adjK]
    | cons y l =>
      constructor
      · rintro ⟨h1, h2⟩ i hi
        cases i with
        | zero => simpa using h1
        | succ i =>
          have := (ih.1 h2) i (by simpa using hi)
          simpa using this
      · intro h
        refine ⟨by simpa using h 0 (by simp), ih.2 fun i hi => ?_⟩
        have := h (i + 1) (by simpa using hi)
        simpa using this
def goodK (l : List KV) : Int := if 5 < l.length then 3 else if ∃ k ∈ l, ¬ mayK k then 2 else if SortedK l then 0 else 7
theorem goodK_zero {l : List KV} (h : goodK l = 0) : l.length ≤ 5 ∧ (∀ k ∈ l, mayK k) ∧ SortedK l := by
  unfold goodK at h
  split at h
  · omega
  · split at h
    · omega
    · split at h
      · rename_i h1 h2 h3
        exact ⟨by omega, fun t ht => Classical.byContradiction fun k => h2 ⟨t, ht, k⟩, h3⟩
      · omega
theorem goodK_of {l : List KV} (h : l.length ≤ 5) (h1 : ∀ k ∈ l, mayK k) (h2 : SortedK l) : goodK l = 0 := by
  unfold goodK; rw [if_neg (by omega), if_neg (fun ⟨t, ht, k⟩ => k (h1 t ht)), if_pos h2]
theorem goodK_long {l : List KV} (h : 5 < l.length) : goodK l = 3 := by unfold goodK; rw [if_pos h]
theorem goodK_bad {l : List KV} (h : l.length ≤ 5) (t : KV) (ht : t ∈ l) (hw : ¬ mayK t) : goodK l = 2 := by
  unfold goodK; rw [if_neg (by omega), if_pos ⟨t, ht, hw⟩]
theorem goodK_sort {l : List KV} (h : l.length ≤ 5) (hw : ∀ t ∈ l, mayK t) (hs : ¬ SortedK l) : goodK l = 7 := by
  unfold goodK; rw [if_neg (by omega), if_neg (fun ⟨t, ht, k⟩ => k (hw t ht)), if_neg hs]
theorem may_lit (k : KV) (c : Bool) (hk : KeyOk k) (hc : decide (mayK k) = c) (w : World) :
    Calls Tryz.prog 53 #[keyV k] w fun e w' => e = .returned (.bool c) ∧ Below w.heap.size w w' := by subst hc; exact may_any k hk w
/-- two keys of a row -/
def Two4 (w0 : World) (b p q : Nat) (x y : KV) (w : World) : Prop := Below w0.heap.size w0 w ∧ w.cell? ⟨b, p, none⟩ = some (.int .i64 x.1) ∧ w.cell? ⟨b, p + 1, none⟩ = some (.string x.2) ∧ w.cell? ⟨b, q, none⟩ = some (.int .i64 y.1) ∧ w.cell? ⟨b, q + 1, none⟩ = some (.string y.2)
theorem two4_carry {w0 w w' : World} {b p q : Nat} {x y : KV} (h : Two4 w0 b p q x y w) (hb : Below w.heap.size w w') : Two4 w0 b p q x y w' := by
  have hlt := lt_of_cell h.2.1
  refine ⟨h.1.trans (hb.mono h.1.size), ?_, ?_, ?_, ?_⟩
  · rw [hb.cell (p := ⟨b, p, none⟩) hlt]; exact h.2.1
  · rw [hb.cell (p := ⟨b, p + 1, none⟩) hlt]; exact h.2.2.1
  · rw [hb.cell (p := ⟨b, q, none⟩) hlt]; exact h.2.2.2.1
  · rw [hb.cell (p := ⟨b, q + 1, none⟩) hlt]; exact h.2.2.2.2
set_option maxHeartbeats 3200000 in
theorem pgood_any (a : Option Addr) (n cap : Nat) (ks : List KV) (w : World) (hh : HoldsK w a n ks) (hn : n ≤ 9223372036854775807) (hk : ∀ k ∈ ks, KeyOk k) :
    Calls Tryz.prog 36 #[.slice a n cap] w fun e w' => e = .returned (.int .i64 (goodK ks)) ∧ Below w.heap.size w w' := by
  have hl := hh.len
  by_cases h5 : n ≤ 5
  case neg =>
    rw [goodK_long (by omega)]
    go_enter Tryz.func36, Tryz.ntmps36
    go_wp2_with fail
    go_ret
    exact ⟨rfl, Below.refl _ _⟩
  go_enter Tryz.func36, Tryz.ntmps36
  go_wp2_with fail
  go_loopw [11] (fun iv wr => ∃ j : Nat, j ≤ n ∧ iv = .int .i64 j ∧ Hid (∀ t ∈ ks.take j, mayK t) ∧ Hid (Below w.heap.size w wr)) (fun iv _ => n - (intOf iv).toNat)
  case atStart => exact ⟨0, by omega, rfl, Lib.hid (by simp), Lib.hid (Below.refl _ _)⟩
  case round =>
    obtain ⟨j, hj, rfl, hS, hB⟩ := hrel
    by_cases hlt : j < n
    · obtain ⟨b, o, rfl, hc⟩ := (hh.below hB.out).at (by omega)
      obtain ⟨e1, e2⟩ := hc j hlt
      have hmem := getD_memK ks j (by omega)
      have htk := take_succ_getD ks k0 j (by omega)
      obtain ⟨x, hx⟩ : ∃ x, ks.getD j k0 = x := ⟨_, rfl⟩
      rw [hx] at e1 e2 hmem htk
      have HX := Lib.hid (hk x hmem); have HM := Lib.hid hmem; have HT := Lib.hid htk
      clear hx hmem htk hc
      by_cases hw : mayK x
      · have HW := Lib.hid hw
        have C := Lib.hid (fun w => may_lit x true HX.out (decide_eq_true hw) w)
        unfold keyV at C
        clear hw
        go_wp2_with fail
        refine (C.out _).mono ?_
        rintro e w2 ⟨rfl, hb2⟩
        have B2 := Lib.hid (hB.out.trans (((below_one wr _).trans (hb2.mono (by simp))).mono hB.out.size))
        clear hb2
        go_wp2_with fail
        go_roundw
        case rel => exact ⟨j + 1, by omega, by go_num, Lib.hid (by rw [HT.out]; intro z hz; rcases List.mem_append.1 hz with hz | hz; exact hS.out z hz; simp at hz; rw [hz]; exact HW.out), B2⟩
        case measure => simp [intOf]; omega
      · have C := Lib.hid (fun w => may_lit x false HX.out (decide_eq_false hw) w)
        unfold keyV at C
        have HG := Lib.hid (goodK_bad (by omega) x HM.out hw)
        clear hw
        go_wp2_with fail
        refine (C.out _).mono ?_
        rintro e w2 ⟨rfl, hb2⟩
        have B2 := Lib.hid (hB.out.trans (((below_one wr _).trans (hb2.mono (by simp))).mono hB.out.size))
        clear hb2
        go_wp2_with fail
        go_ret
        exact ⟨ret_int HG.out.symm, B2.out⟩
    · have hjn : ks.take j = ks := List.take_of_length_le (by omega)
      have hwd := hS.out
      rw [hjn] at hwd
      have HW := Lib.hid hwd
      have hB1 := hB
      clear hjn hwd hS hB
      go_wp2_with fail
      go_loopw [5] (fun iv wr2 => ∃ i : Nat, 1 ≤ i ∧ i ≤ n + 1 ∧ iv = .int .i64 i ∧ Hid (∀ k, k + 1 < i → k + 1 < n → ordK (ks.getD k k0) (ks.getD (k + 1) k0) < 0) ∧ Hid (Below w.heap.size w wr2)) (fun iv _ => n + 1 - (intOf iv).toNat)
      case atStart => exact ⟨1, by omega, by omega, rfl, Lib.hid (fun k h1 => by omega), hB1⟩
      case round =>
        obtain ⟨i, hi1, hi2, rfl, hS, hB⟩ := hrel
        by_cases hlt2 : i < n
        · obtain ⟨b, o, rfl, hc⟩ := (hh.below hB.out).at (by omega)
          obtain ⟨q, hq⟩ : ∃ q, q = i - 1 := ⟨_, rfl⟩
          have hqi : q + 1 = i := by omega
          obtain ⟨e3, e4⟩ := hc i hlt2
          obtain ⟨e1, e2⟩ := hc q (by omega)
          obtain ⟨x, hx⟩ : ∃ x, ks.getD q k0 = x := ⟨_, rfl⟩
          obtain ⟨y, hy⟩ : ∃ y, ks.getD i k0 = y := ⟨_, rfl⟩
          rw [hx] at e1 e2; rw [hy] at e3 e4
          have HX := Lib.hid hx; have HY := Lib.hid hy; have HQ := Lib.hid hqi
          have T := Lib.hid (show Two4 wr b (o + q * 2) (o + i * 2) x y wr from ⟨Below.refl _ _, e1, e2, e3, e4⟩)
          have hr : IntKind.i64.wrap ((i : Int) - 1) = (q : Int) := by rw [IntWalk.i64_in _ (by omega)]; omega
          have g1 : (0 : Int) ≤ (q : Int) := by omega
          have g2 : (q : Int) < (n : Int) := by omega
          have g3 : (0 : Int) ≤ (i : Int) := by omega
          have g4 : (i : Int) < (n : Int) := by omega
          have bs := hB.out.size
          clear hx hy hc hq hqi e1 e2 e3 e4
          by_cases hvn : ordK x y < 0
          · have C := Lib.hid (fun w => pless_lit x y true (decide_eq_true hvn) w)
            unfold keyV at C
            have HV := Lib.hid hvn
            clear hvn
            go_upto_region 12 with fail
            go_region_held3 (fun w' => Below wr.heap.size wr w' ∧ w'.cell? ⟨b, o + q * 2, none⟩ = some (.int .i64 x.1) ∧ w'.cell? ⟨b, o + q * 2 + 1, none⟩ = some (.string x.2) ∧ w'.cell? ⟨b, o + i * 2, none⟩ = some (.int .i64 y.1) ∧ w'.cell? ⟨b, o + i * 2 + 1, none⟩ = some (.string y.2))
              (first | assumption | exact two4_carry T.out (below_drewN wr _) | exact two4_carry T.out (Below.refl _ _).drew | exact two4_carry (by assumption) (by assumption))
              (first | (go_at_call 54; refine (C.out _).mono ?_; rintro e w' ⟨rfl, hb⟩))
            rename_i T5
            obtain ⟨hb5, -⟩ := T5
            go_wp2_with fail
            go_roundw
            case rel =>
              refine ⟨i + 1, by omega, by omega, by go_num, Lib.hid (fun k h1 h2 => ?_), Lib.hid (hB.out.trans (hb5.mono bs))⟩
              by_cases hk2 : k = q
              · subst hk2; rw [HX.out, HQ.out, HY.out]; exact HV.out
              · exact hS.out k (by have := HQ.out; omega) h2
            case measure => simp [intOf]; omega
          · have C := Lib.hid (fun w => pless_lit x y false (decide_eq_false hvn) w)
            unfold keyV at C
            have hg := goodK_sort (by omega) HW.out (fun hs => hvn (by have := (adjK_iff ks).1 hs q (by have := HQ.out; omega); rw [HX.out, HQ.out, HY.out] at this; exact this))
            have HG := Lib.hid hg
            clear hg hvn
            go_upto_region 12 with fail
            go_region_held3 (fun w' => Below wr.heap.size wr w' ∧ w'.cell? ⟨b, o + q * 2, none⟩ = some (.int .i64 x.1) ∧ w'.cell? ⟨b, o + q * 2 + 1, none⟩ = some (.string x.2) ∧ w'.cell? ⟨b, o + i * 2, none⟩ = some (.int .i64 y.1) ∧ w'.cell? ⟨b, o + i * 2 + 1, none⟩ = some (.string y.2))
              (first | assumption | exact two4_carry T.out (below_drewN wr _) | exact two4_carry T.out (Below.refl _ _).drew | exact two4_carry (by assumption) (by assumption))
              (first | (go_at_call 54; refine (C.out _).mono ?_; rintro e w' ⟨rfl, hb⟩))
            rename_i T5
            obtain ⟨hb5, -⟩ := T5
            go_wp2_with fail
            go_ret
            exact ⟨ret_int HG.out.symm, hB.out.trans (hb5.mono bs)⟩
        · have hg := goodK_of (l := ks) (by omega) HW.out ((adjK_iff ks).2 fun k hk => hS.out k (by omega) (by omega))
          have HG := Lib.hid hg
          clear hg
          go_wp2_with fail
          go_ret
          exact ⟨ret_int HG.out.symm, hB.out⟩
theorem pgood_lit (a : Option Addr) (n cap : Nat) (ks : List KV) (v : Int) (w : World) (hh : HoldsK w a n ks) (hn : n ≤ 9223372036854775807) (hk : ∀ k ∈ ks, KeyOk k) (hv : goodK ks = v) :
    Calls Tryz.prog 36 #[.slice a n cap] w fun e w' => e = .returned (.int .i64 v) ∧ Below w.heap.size w w' := by subst hv; exact pgood_any a n cap ks w hh hn hk
end Go.Proofs.YtbbholdadgjelaaGreat
/- contract of great (keys) -/
namespace Go.Proofs.YtbbholdadgjelaaGreat
open Go.RowKit
set_option linter.unusedVariables false
set_option maxRecDepth 20000
def greatK (ks : List KV) : Bool := decide (10 < ks.length ∨ ∃ k ∈ ks, 100 < k.2.size)
theorem greatK_yes {ks : List KV} (h : 10 < ks.length ∨ ∃ k ∈ ks, 100 < k.2.size) : greatK ks = true := decide_eq_true h
theorem greatK_no {ks : List KV} (h1 : ks.length ≤ 10) (h2 : ∀ k ∈ ks, k.2.size ≤ 100) : greatK ks = false := by
  refine decide_eq_false ?_
  rintro (h | ⟨t, ht, h⟩)
  · omega
  · have := h2 t ht; omega
theorem greatK_no_iff {ks : List KV} : greatK ks = false ↔ ks.length ≤ 10 ∧ ∀ k ∈ ks, k.2.size ≤ 100 := by
  constructor
  · intro h
    have h' := of_decide_eq_false h
    refine ⟨Nat.le_of_not_lt fun k => h' (Or.inl k), fun t ht => Nat.le_of_not_lt fun k => h' (Or.inr ⟨t, ht, k⟩)⟩
  · rintro ⟨h1, h2⟩; exact greatK_no h1 h2
abbrev confV (a : Option Addr) (n cap : Nat) : Array Value := #[.slice none 0 0, .slice a n cap, .int .i64 0, .int .i64 0, .int .i64 0, .int .i64 0, .int .i64 0, .int .i64 0, .int .i64 0, .int .i64 0, .int .i64 0, .int .i64 0]
set_option maxHeartbeats 1600000 in
theorem gconf_any (a : Option Addr) (n cap : Nat) (ks : List KV) (w : World) (hh : HoldsK w a n ks) (hn : n ≤ 9223372036854775807) (hk : ∀ k ∈ ks, KeyOk k) :
    Calls Tryz.prog 4 #[.agg #[.slice none 0 0, .slice a n cap, .int .i64 0, .int .i64 0, .int .i64 0, .int .i64 0, .int .i64 0, .int .i64 0, .int .i64 0, .int .i64 0, .int .i64 0, .int .i64 0]] w fun e w' => e = .returned (.bool (greatK ks)) ∧ Below w.heap.size w w' := by
  have hl := hh.len
  obtain ⟨gv, hgv⟩ : ∃ g, greatK ks = g := ⟨_, rfl⟩
  rw [hgv]
  have HG := Lib.hid hgv
  clear hgv
  have GT := Lib.hid (fun w => great_any none 0 0 [] w (HoldsT.nil _ _) (by omega) (by simp))
  rw [great_no (ts := []) (by simp) (by simp [smallP])] at GT
  have BB := Lib.hid (below_one w (.cells #[.slice none 0 0, .slice a n cap, .int .i64 0, .int .i64 0, .int .i64 0, .int .i64 0, .int .i64 0, .int .i64 0, .int .i64 0, .int .i64 0, .int .i64 0, .int .i64 0] 25))
  have e0 : (w.alloc (.cells #[.slice none 0 0, .slice a n cap, .int .i64 0, .int .i64 0, .int .i64 0, .int .i64 0, .int .i64 0, .int .i64 0, .int .i64 0, .int .i64 0, .int .i64 0, .int .i64 0] 25)).cell? ⟨w.heap.size, 0, none⟩ = some (.slice none 0 0) := by simp
  have e1 : (w.alloc (.cells #[.slice none 0 0, .slice a n cap, .int .i64 0, .int .i64 0, .int .i64 0, .int .i64 0, .int .i64 0, .int .i64 0, .int .i64 0, .int .i64 0, .int .i64 0, .int .i64 0] 25)).cell? ⟨w.heap.size, 1, none⟩ = some (.slice a n cap) := by simp
  go_enter Tryz.func4, Tryz.ntmps4
  go_wp2_with fail
  generalize w.alloc (.cells #[.slice none 0 0, .slice a n cap, .int .i64 0, .int .i64 0, .int .i64 0, .int .i64 0, .int .i64 0, .int .i64 0, .int .i64 0, .int .i64 0, .int .i64 0, .int .i64 0] 25) = w1 at *
  have H1 := Lib.hid (hh.below BB.out)
  obtain ⟨blk, hblk⟩ : ∃ blk, w.heap.size = blk := ⟨_, rfl⟩
  have HBK := Lib.hid hblk
  rw [hblk] at e0 e1 ⊢
  have C1 := Lib.hid (fun (w3 : World) (hb : Below w1.heap.size w1 w3) => show w3.cell? ⟨blk, 1, none⟩ = some (.slice a n cap) from (hb.cell (p := ⟨blk, 1, none⟩) (lt_of_cell e1)).trans e1)
  clear hblk hh
  by_cases h10 : n ≤ 10
  case neg =>
    have hg : gv = true := by rw [← HG.out]; exact greatK_yes (Or.inl (by omega))
    subst hg
    have g1 : decide ((n : Int) ≤ 10) = false := by rw [decide_eq_false_iff_not]; omega
    go_loop [3] (fun iv => iv = .int .i64 0) (fun _ => 0)
    case atStart => rfl
    case round =>
      obtain rfl := hrel
      go_wp2_with fail
      refine (GT.out _).mono ?_
      rintro e w2 ⟨rfl, hb2⟩
      have e2 := C1.out w2 hb2
      go_wp2_with fail
      go_ret
      exact ⟨ret_bool (by rw [decide_eq_true_iff]; omega), BB.out.trans (by rw [HBK.out]; exact hb2.mono (by have := BB.out.size; have := HBK.out; omega))⟩
  go_loop [3] (fun iv => ∃ j : Nat, j ≤ n ∧ iv = .int .i64 j ∧ Hid (∀ k ∈ ks.take j, k.2.size ≤ 100)) (fun iv => n - (intOf iv).toNat)
  case atStart => exact ⟨0, by omega, rfl, Lib.hid (by simp)⟩
  case round =>
    obtain ⟨j, hj, rfl, hS⟩ := hrel
    have g1 : decide ((n : Int) ≤ 10) = true := by rw [decide_eq_true_iff]; omega
    by_cases hlt : j < n
    · obtain ⟨b, o, rfl, hc⟩ := H1.out.at (by omega)
      obtain ⟨e3, e4⟩ := hc j hlt
      have hmem := getD_memK ks j (by omega)
      have htk := take_succ_getD ks k0 j (by omega)
      obtain ⟨x, hx⟩ : ∃ x, ks.getD j k0 = x := ⟨_, rfl⟩
      rw [hx] at e3 e4 hmem htk
      have hxs := (hk x hmem).2
      have HM := Lib.hid hmem; have HT := Lib.hid htk
      clear hx hmem htk hc
      by_cases hg : 100 < x.2.size
      · have hgt : gv = true := by rw [← HG.out]; exact greatK_yes (Or.inr ⟨x, HM.out, hg⟩)
        subst hgt
        go_wp2_with fail
        go_ret
        exact ⟨rfl, BB.out⟩
      · go_wp2_with fail
        go_round
        case rel => exact ⟨j + 1, by omega, by go_num, Lib.hid (by rw [HT.out]; intro z hz; rcases List.mem_append.1 hz with hz | hz; exact hS.out z hz; simp at hz; rw [hz]; omega)⟩
        case measure => simp [intOf]; omega
    · have hjn : ks.take j = ks := List.take_of_length_le (by omega)
      have hS2 := hS.out
      rw [hjn] at hS2
      have hg : gv = false := by rw [← HG.out]; exact greatK_no (by omega) hS2
      subst hg
      go_wp2_with fail
      refine (GT.out _).mono ?_
      rintro e w2 ⟨rfl, hb2⟩
      have e2 := C1.out w2 hb2
      go_wp2_with fail
      go_ret
      exact ⟨ret_bool (by rw [decide_eq_false_iff_not]; omega), BB.out.trans (by rw [HBK.out]; exact hb2.mono (by have := BB.out.size; have := HBK.out; omega))⟩
end Go.Proofs.YtbbholdadgjelaaGreat
/- place: a configuration by value; May -/
namespace Go.Proofs.YtbbholdadgjelaaGreat
open Go.RowKit
set_option linter.unusedVariables false
set_option maxRecDepth 20000
/-- a configuration, and where its words and cuts lie -/
structure Cfg where
  wa : Option Addr
  wn : Nat
  wc : Nat
  ka : Option Addr
  kn : Nat
  kc : Nat
  W : Int
  C : Int
  S : Int
  B : Int
  L : Int
  H : Int
  F : Int
  P : Int
  J : Int
  N : Int
  ws : List Tx
  ks : List KV
def CfgOk (w : World) (c : Cfg) : Prop := HoldsT w c.wa c.wn c.ws ∧ (c.wa = none → c.wn = 0 ∧ c.wc = 0) ∧ c.wn ≤ c.wc ∧ c.wn ≤ 9223372036854775807 ∧ (∀ t ∈ c.ws, t.size ≤ 9223372036854775807) ∧ HoldsK w c.ka c.kn c.ks ∧ c.kn ≤ 9223372036854775807 ∧ ∀ k ∈ c.ks, KeyOk k
theorem CfgOk.below {w w' : World} {c : Cfg} (h : CfgOk w c) (hb : Below w.heap.size w w') : CfgOk w' c := ⟨h.1.below hb, h.2.1, h.2.2.1, h.2.2.2.1, h.2.2.2.2.1, h.2.2.2.2.2.1.below hb, h.2.2.2.2.2.2⟩
def CfgIn (w : World) (p : Nat) (c : Cfg) : Prop := w.cell? ⟨p, 0, none⟩ = some (.slice c.wa c.wn c.wc) ∧ w.cell? ⟨p, 1, none⟩ = some (.slice c.ka c.kn c.kc) ∧ w.cell? ⟨p, 2, none⟩ = some (.int .i64 c.W) ∧ w.cell? ⟨p, 3, none⟩ = some (.int .i64 c.C) ∧ w.cell? ⟨p, 4, none⟩ = some (.int .i64 c.S) ∧ w.cell? ⟨p, 5, none⟩ = some (.int .i64 c.B) ∧ w.cell? ⟨p, 6, none⟩ = some (.int .i64 c.L) ∧ w.cell? ⟨p, 7, none⟩ = some (.int .i64 c.H) ∧ w.cell? ⟨p, 8, none⟩ = some (.int .i64 c.F) ∧ w.cell? ⟨p, 9, none⟩ = some (.int .i64 c.P) ∧ w.cell? ⟨p, 10, none⟩ = some (.int .i64 c.J) ∧ w.cell? ⟨p, 11, none⟩ = some (.int .i64 c.N)
theorem CfgIn.of {w w' : World} {p : Nat} {c : Cfg} (h : CfgIn w p c) (e : ∀ i, w'.cell? ⟨p, i, none⟩ = w.cell? ⟨p, i, none⟩) : CfgIn w' p c := by
  unfold CfgIn at *
  rw [e, e, e, e, e, e, e, e, e, e, e, e]; exact h
theorem CfgIn.below {w w' : World} {p : Nat} {c : Cfg} (h : CfgIn w p c) (hb : Below w.heap.size w w') : CfgIn w' p c := h.of fun i => hb.cell (p := ⟨p, i, none⟩) (lt_of_cell h.1)
theorem cfgIn_new (w : World) (c : Cfg) (p : Nat) (e : TypeId) (fr : Nat × Nat) (hp : p = w.heap.size) : CfgIn (w.alloc (.cells #[.slice c.wa c.wn c.wc, .slice c.ka c.kn c.kc, .int .i64 c.W, .int .i64 c.C, .int .i64 c.S, .int .i64 c.B, .int .i64 c.L, .int .i64 c.H, .int .i64 c.F, .int .i64 c.P, .int .i64 c.J, .int .i64 c.N] e fr)) p c := by
  subst hp
  unfold CfgIn
  refine ⟨?_, ?_, ?_, ?_, ?_, ?_, ?_, ?_, ?_, ?_, ?_, ?_⟩ <;> (rw [World.cell?_alloc_mark]; rfl)
theorem pin_lit (n lo hi : Int) (c : Bool) (w : World) (h : decide (lo ≤ n ∧ n ≤ hi) = c) :
    Calls Tryz.prog 37 #[.int .i64 n, .int .i64 lo, .int .i64 hi] w fun e w' => e = .returned (.bool c) ∧ w = w' := by
  subst h
  go_enter Tryz.func37, Tryz.ntmps37
  go_wp2
  all_goals (go_ret; exact ⟨ret_bool (by simp; try omega), rfl⟩)
/-- may it be? -/
def Cfg.may (c : Cfg) : Bool := decide (goodV c.ws = 0) && (decide (goodK c.ks = 0) && (decide (1 ≤ c.W ∧ c.W ≤ 5) && (decide (1 ≤ c.C ∧ c.C ≤ min 3 c.W) && (decide (1 ≤ c.S ∧ c.S ≤ 4) && (decide (1 ≤ c.B ∧ c.B ≤ 5) && (decide (1 ≤ c.L ∧ c.L ≤ 1000) && (decide (1 ≤ c.H ∧ c.H ≤ 1000) && (decide (1 ≤ c.F ∧ c.F ≤ 10) && (decide (c.F ≤ c.P ∧ c.P ≤ 50) && (decide (0 ≤ c.J ∧ c.J ≤ 10) && (decide (8 ≤ c.N ∧ c.N ≤ 64))))))))))))
set_option maxHeartbeats 6400000 in
set_option maxRecDepth 100000 in
theorem may_cfg (c : Cfg) (z : Bool) (w : World) (h : CfgOk w c) (hz : c.may = z) :
    Calls Tryz.prog 23 #[.agg #[.slice c.wa c.wn c.wc, .slice c.ka c.kn c.kc, .int .i64 c.W, .int .i64 c.C, .int .i64 c.S, .int .i64 c.B, .int .i64 c.L, .int .i64 c.H, .int .i64 c.F, .int .i64 c.P, .int .i64 c.J, .int .i64 c.N]] w fun e w' => e = .returned (.bool z) ∧ Below w.heap.size w w' := by
  obtain ⟨v1, hv1⟩ : ∃ v, goodV c.ws = v := ⟨_, rfl⟩
  obtain ⟨v2, hv2⟩ : ∃ v, goodK c.ks = v := ⟨_, rfl⟩
  unfold Cfg.may at hz
  rw [hv1, hv2] at hz
  obtain ⟨z0, h0⟩ : ∃ z, decide (v1 = 0) = z := ⟨_, rfl⟩
  obtain ⟨z1, h1⟩ : ∃ z, decide (v2 = 0) = z := ⟨_, rfl⟩
  obtain ⟨z2, h2⟩ : ∃ z, decide (1 ≤ c.W ∧ c.W ≤ 5) = z := ⟨_, rfl⟩
  obtain ⟨z3, h3⟩ : ∃ z, decide (1 ≤ c.C ∧ c.C ≤ min 3 c.W) = z := ⟨_, rfl⟩
  obtain ⟨z4, h4⟩ : ∃ z, decide (1 ≤ c.S ∧ c.S ≤ 4) = z := ⟨_, rfl⟩
  obtain ⟨z5, h5⟩ : ∃ z, decide (1 ≤ c.B ∧ c.B ≤ 5) = z := ⟨_, rfl⟩
  obtain ⟨z6, h6⟩ : ∃ z, decide (1 ≤ c.L ∧ c.L ≤ 1000) = z := ⟨_, rfl⟩
  obtain ⟨z7, h7⟩ : ∃ z, decide (1 ≤ c.H ∧ c.H ≤ 1000) = z := ⟨_, rfl⟩
  obtain ⟨z8, h8⟩ : ∃ z, decide (1 ≤ c.F ∧ c.F ≤ 10) = z := ⟨_, rfl⟩
  obtain ⟨z9, h9⟩ : ∃ z, decide (c.F ≤ c.P ∧ c.P ≤ 50) = z := ⟨_, rfl⟩
  obtain ⟨z10, h10⟩ : ∃ z, decide (0 ≤ c.J ∧ c.J ≤ 10) = z := ⟨_, rfl⟩
  obtain ⟨z11, h11⟩ : ∃ z, decide (8 ≤ c.N ∧ c.N ≤ 64) = z := ⟨_, rfl⟩
  rw [h0, h1, h2, h3, h4, h5, h6, h7, h8, h9, h10, h11] at hz
  have HZ := Lib.hid hz
  have V1 := Lib.hid hv1; have V2 := Lib.hid hv2
  have H2 := Lib.hid h2
  have H3 := Lib.hid h3
  have H4 := Lib.hid h4
  have H5 := Lib.hid h5
  have H6 := Lib.hid h6
  have H7 := Lib.hid h7
  have H8 := Lib.hid h8
  have H9 := Lib.hid h9
  have H10 := Lib.hid h10
  have H11 := Lib.hid h11
  have e0 : (v1 == 0) = z0 := by rw [← h0]; rfl
  have e1 : (v2 == 0) = z1 := by rw [← h1]; rfl
  have OK := Lib.hid (h.below (below_one w (.cells #[.slice c.wa c.wn c.wc, .slice c.ka c.kn c.kc, .int .i64 c.W, .int .i64 c.C, .int .i64 c.S, .int .i64 c.B, .int .i64 c.L, .int .i64 c.H, .int .i64 c.F, .int .i64 c.P, .int .i64 c.J, .int .i64 c.N] 25)))
  have BX := Lib.hid (below_one w (.cells #[.slice c.wa c.wn c.wc, .slice c.ka c.kn c.kc, .int .i64 c.W, .int .i64 c.C, .int .i64 c.S, .int .i64 c.B, .int .i64 c.L, .int .i64 c.H, .int .i64 c.F, .int .i64 c.P, .int .i64 c.J, .int .i64 c.N] 25))
  have IN := Lib.hid (cfgIn_new w c w.heap.size 25 (0, 0) rfl)
  clear hz hv1 hv2 h0 h1 h2 h3 h4 h5 h6 h7 h8 h9 h10 h11 h
  go_enter Tryz.func23, Tryz.ntmps23
  go_wp2_with fail
  refine (good_any' c.wa c.wn c.wc c.ws _ OK.out.1 OK.out.2.2.2.1 OK.out.2.2.2.2.1).mono ?_
  rw [V1.out]
  rintro e w2 ⟨rfl, hb2⟩
  have I2 := Lib.hid (IN.out.below hb2)
  have OK2 := Lib.hid (OK.out.below hb2)
  have B2 := Lib.hid (BX.out.trans (hb2.mono BX.out.size))
  clear hb2
  have hI := I2.out
  unfold CfgIn at hI
  obtain ⟨i0, i1, i2, i3, i4, i5, i6, i7, i8, i9, i10, i11⟩ := hI
  cases z0
  · go_wp2_with fail
    go_ret
    exact ⟨by rw [← HZ.out]; rfl, B2.out⟩
  go_wp2_with fail
  refine (pgood_any c.ka c.kn c.kc c.ks _ OK2.out.2.2.2.2.2.1 OK2.out.2.2.2.2.2.2.1 OK2.out.2.2.2.2.2.2.2).mono ?_
  rw [V2.out]
  rintro e w3 ⟨rfl, hb3⟩
  have I3 := Lib.hid (I2.out.below hb3)
  have BZ := Lib.hid (B2.out.trans (hb3.mono B2.out.size))
  clear hb3 i0 i1 i2 i3 i4 i5 i6 i7 i8 i9 i10 i11
  have hI := I3.out
  unfold CfgIn at hI
  obtain ⟨i0, i1, i2, i3, i4, i5, i6, i7, i8, i9, i10, i11⟩ := hI
  cases z1
  · go_wp2_with fail
    go_ret
    exact ⟨by rw [← HZ.out]; rfl, BZ.out⟩
  go_wp2_with fail
  refine (pin_lit c.W 1 5 z2 _ H2.out).mono ?_
  rintro e w' ⟨rfl, rfl⟩
  cases z2
  · go_wp2_with fail
    go_ret
    exact ⟨by rw [← HZ.out]; rfl, BZ.out⟩
  go_wp2_with fail
  refine (pin_lit c.C 1 (min 3 c.W) z3 _ H3.out).mono ?_
  rintro e w' ⟨rfl, rfl⟩
  cases z3
  · go_wp2_with fail
    go_ret
    exact ⟨by rw [← HZ.out]; rfl, BZ.out⟩
  go_wp2_with fail
  refine (pin_lit c.S 1 4 z4 _ H4.out).mono ?_
  rintro e w' ⟨rfl, rfl⟩
  cases z4
  · go_wp2_with fail
    go_ret
    exact ⟨by rw [← HZ.out]; rfl, BZ.out⟩
  go_wp2_with fail
  refine (pin_lit c.B 1 5 z5 _ H5.out).mono ?_
  rintro e w' ⟨rfl, rfl⟩
  cases z5
  · go_wp2_with fail
    go_ret
    exact ⟨by rw [← HZ.out]; rfl, BZ.out⟩
  go_wp2_with fail
  refine (pin_lit c.L 1 1000 z6 _ H6.out).mono ?_
  rintro e w' ⟨rfl, rfl⟩
  cases z6
  · go_wp2_with fail
    go_ret
    exact ⟨by rw [← HZ.out]; rfl, BZ.out⟩
  go_wp2_with fail
  refine (pin_lit c.H 1 1000 z7 _ H7.out).mono ?_
  rintro e w' ⟨rfl, rfl⟩
  cases z7
  · go_wp2_with fail
    go_ret
    exact ⟨by rw [← HZ.out]; rfl, BZ.out⟩
  go_wp2_with fail
  refine (pin_lit c.F 1 10 z8 _ H8.out).mono ?_
  rintro e w' ⟨rfl, rfl⟩
  cases z8
  · go_wp2_with fail
    go_ret
    exact ⟨by rw [← HZ.out]; rfl, BZ.out⟩
  go_wp2_with fail
  refine (pin_lit c.P c.F 50 z9 _ H9.out).mono ?_
  rintro e w' ⟨rfl, rfl⟩
  cases z9
  · go_wp2_with fail
    go_ret
    exact ⟨by rw [← HZ.out]; rfl, BZ.out⟩
  go_wp2_with fail
  refine (pin_lit c.J 0 10 z10 _ H10.out).mono ?_
  rintro e w' ⟨rfl, rfl⟩
  cases z10
  · go_wp2_with fail
    go_ret
    exact ⟨by rw [← HZ.out]; rfl, BZ.out⟩
  go_wp2_with fail
  refine (pin_lit c.N 8 64 z11 _ H11.out).mono ?_
  rintro e w' ⟨rfl, rfl⟩
  cases z11
  · go_wp2_with fail
    go_ret
    exact ⟨by rw [← HZ.out]; rfl, BZ.out⟩
  go_wp2_with fail
  go_ret
  exact ⟨by rw [← HZ.out]; rfl, BZ.out⟩
end Go.Proofs.YtbbholdadgjelaaGreat
/- awake of the laws of cuts -/
namespace Go.Proofs.YtbbholdadgjelaaGreat
open Go.RowKit
set_option linter.unusedVariables false
set_option maxRecDepth 20000
abbrev tM : Tx := { data := #[109] }
abbrev tE0 : Tx := { data := #[] }
abbrev tZ : Tx := { data := #[122] }
abbrev tAA : Tx := { data := #[97, 97] }
abbrev tMMM : Tx := { data := #[109, 109, 109] }
def pairL : List KV := [(2, tE0), (3, tM)]
theorem cmpS_dataK (a b : Tx) : cmpS a b = cmpL a.data.toList b.data.toList := by unfold cmpS; rw [ByteArray.toList_eq, ByteArray.toList_eq]
theorem lzZ : lenS tZ = 1 := by decide
theorem lzAA : lenS tAA = 2 := by decide
theorem lzMMM : lenS tMMM = 3 := by decide
theorem lzM : lenS tM = 1 := by decide
theorem lzE : lenS tE0 = 0 := by decide
theorem caa : cmpS tAA tE0 = 1 := by rw [cmpS_dataK]; decide
theorem cmm : cmpS tMMM tM = 1 := by rw [cmpS_dataK]; decide
theorem of_z : ofZ pairL tZ = 0 := by
  have hw : wordP tZ := by decide
  simp [ofZ, hw, ofN, pairL, keyOf, List.findIdx_cons, ordK, lzZ]
theorem of_aa : ofZ pairL tAA = 1 := by
  have hw : wordP tAA := by decide
  simp [ofZ, hw, ofN, pairL, keyOf, List.findIdx_cons, ordK, lzAA, caa]
theorem of_mmm : ofZ pairL tMMM = 2 := by
  have hw : wordP tMMM := by decide
  simp [ofZ, hw, ofN, pairL, keyOf, List.findIdx_cons, ordK, lzMMM, cmm]
theorem may_pair : ∀ k ∈ pairL, mayK k := by
  intro k hk
  simp [pairL] at hk
  rcases hk with rfl | rfl <;> simp [mayK, lzE, lzM]
theorem lo_pair : loK pairL 1 = 2 := by simp [loK, pairL]
theorem hi_pair : hiK pairL 1 = 3 := by
  have h : tM ≠ ByteArray.empty := by intro h; have := congrArg ByteArray.size h; exact absurd this (by decide)
  unfold hiK
  rw [if_pos (show 1 < pairL.length by decide), if_neg (show ¬ (pairL.getD 1 k0).2 = ByteArray.empty from h)]
  rfl
theorem least_pair : leastK pairL 1 6 = 3 := by unfold leastK; rw [lo_pair, hi_pair]; decide
end Go.Proofs.YtbbholdadgjelaaGreat
/- the laws of cuts: a greater key -/
namespace Go.Proofs.YtbbholdadgjelaaGreat
open Go.RowKit
set_option linter.unusedVariables false
set_option maxRecDepth 20000
theorem findIdx_mono {α : Type} (p q : α → Bool) (h : ∀ x, q x = true → p x = true) : ∀ xs : List α, xs.findIdx p ≤ xs.findIdx q
  | [] => by simp
  | x :: xs => by
    rw [List.findIdx_cons, List.findIdx_cons]
    cases hq : q x with
    | true => simp [h x hq]
    | false =>
      cases hp : p x with
      | true => simp
      | false => simpa using findIdx_mono p q h xs
theorem ofN_mono (ks : List KV) {x y : KV} (h : ordK x y < 0) : ofN ks x ≤ ofN ks y :=
  findIdx_mono _ _ (fun c hc => by rw [decide_eq_true_iff] at *; exact ordK_trans h hc) ks
theorem ofZ_word {ks : List KV} {t : Tx} (h : wordP t) : ofZ ks t = ofN ks (keyOf t) := if_pos h
theorem lenl_any (t : Tx) (l : Int) (w : World) (ht : t.size ≤ 9223372036854775807) (hl : lenS t = l) :
    Calls Tryz.prog 66 #[.string t] w fun e w' => e = .returned (.int .i64 l) ∧ Below w.heap.size w w' := by subst hl; exact len_any t w ht
end Go.Proofs.YtbbholdadgjelaaGreat
/- a list of texts that was answered -/
namespace Go.Proofs.YtbbholdadgjelaaGreat
open Go.RowKit
set_option linter.unusedVariables false
set_option maxRecDepth 20000
theorem str_info : (Tryz.prog.info? 9).map (fun i => (i.zero, i.size, i.bytes)) = some (some (.string ⟨#[]⟩), 1, 16) := by kernel_rfl
theorem getD_memT' (zs : List Tx) (j : Nat) (h : j < zs.length) : zs.getD j ByteArray.empty ∈ zs := by
  rw [List.getD_eq_getElem?_getD, List.getElem?_eq_getElem h]; simp
/-- a list of texts that was answered, the call's own -/
def RetO (w : World) (ys : List Tx) (e : Ending) (w' : World) : Prop := ∃ a c, e = .returned (.slice a ys.length c) ∧ w'.ownsRow w.heap.size 9 1 (.slice a ys.length c) ys.length (strsV ys) ∧ Below w.heap.size w w'
theorem ret_own {w w' : World} {a : Option Addr} {c n : Nat} {ys zs : List Tx} (h : ys = zs) (hn : ys.length = n) (hh : w'.ownsRow w.heap.size 9 1 (.slice a n c) n (strsV ys)) (hb : Below w.heap.size w w') (v : Value) (hv : v = .slice a n c) : RetO w zs (.returned v) w' := by
  subst h hv hn; exact ⟨a, c, rfl, hh, hb⟩
end Go.Proofs.YtbbholdadgjelaaGreat
/- contract of part.Slice -/
namespace Go.Proofs.YtbbholdadgjelaaGreat
open Go.RowKit
set_option linter.unusedVariables false
set_option maxRecDepth 20000
def sliceS (ks : List KV) (ws : List Tx) (s : Nat) : List Tx := ws.filter fun t => decide (ofZ ks t = (s : Int))
theorem sliceS_yes (ks : List KV) (ws : List Tx) (s : Nat) (x : Tx) (h : ofZ ks x = (s : Int)) : sliceS ks (ws ++ [x]) s = sliceS ks ws s ++ [x] := by
  unfold sliceS; rw [List.filter_append]; simp [h]
theorem sliceS_no (ks : List KV) (ws : List Tx) (s : Nat) (x : Tx) (h : ¬ ofZ ks x = (s : Int)) : sliceS ks (ws ++ [x]) s = sliceS ks ws s := by
  unfold sliceS; rw [List.filter_append]; simp [h]
set_option maxHeartbeats 1600000 in
theorem slice_any (a : Option Addr) (n cap : Nat) (ks : List KV) (a1 : Option Addr) (n1 cap1 : Nat) (ws : List Tx) (s : Nat) (w : World) (hh : HoldsK w a n ks) (hh1 : HoldsT w a1 n1 ws) (hn : n ≤ 1000) (hn1 : n1 ≤ 1000) (hs : s ≤ 1000) (hsz : ∀ t ∈ ws, t.size ≤ 9223372036854775807) :
    Calls Tryz.prog 58 #[.slice a n cap, .slice a1 n1 cap1, .int .i64 s] w (RetO w (sliceS ks ws s)) := by
  obtain ⟨i0, hi, hz0, hz1, hz2⟩ := info_parts str_info
  have hl := hh1.len
  go_enter Tryz.func58, Tryz.ntmps58
  go_wp2_with fail
  go_loopw [7, 13] (fun ov iv wr => ∃ (j : Nat) (P : List Tx), j ≤ n1 ∧ P.length ≤ j ∧ iv = .int .i64 j ∧ Hid (P = sliceS ks (ws.take j) s) ∧ Hid (wr.ownsRow w.heap.size 9 1 ov P.length (strsV P)) ∧ Hid (Below w.heap.size w wr)) (fun _ iv _ => n1 - (intOf iv).toNat)
  case atStart => exact ⟨0, [], by omega, by simp, rfl, Lib.hid rfl, Lib.hid (World.ownsRow_nil _ _ _ _), Lib.hid (Below.refl _ _)⟩
  case round =>
    obtain ⟨j, P, hj, hPl, rfl, hP, hO, hB⟩ := hrel
    by_cases hlt : j < n1
    · have hcell := hh1.at (by omega)
      obtain ⟨bb, o, rfl, hc'⟩ := hcell
      have e0 := hc' j hlt
      have HC := Lib.hid (fun (w3 : World) (hb : Below w.heap.size w w3) => show w3.cell? ⟨bb, o + j, none⟩ = some (.string (ws.getD j ByteArray.empty)) from (hb.cell (p := ⟨bb, o + j, none⟩) (lt_of_cell e0)).trans e0)
      have hmem := getD_memT' ws j (by omega)
      have htk := take_succ_getD ws ByteArray.empty j (by omega)
      obtain ⟨x, hx⟩ : ∃ x, ws.getD j ByteArray.empty = x := ⟨_, rfl⟩
      rw [hx] at htk hmem
      simp only [hx] at HC
      have HT := Lib.hid htk
      have HX := Lib.hid (hsz x hmem)
      clear hx htk hc' e0 hmem
      have e1 := HC.out _ hB.out
      have H1 := Lib.hid (hh.below hB.out)
      obtain ⟨v, hv⟩ : ∃ v, ofZ ks x = v := ⟨_, rfl⟩
      have HV := Lib.hid hv
      by_cases hin : v = (s : Int)
      · subst hin
        have hls := sliceS_yes ks (ws.take j) s x hv
        rw [← HT.out, ← hP.out] at hls
        have HL := Lib.hid hls
        have g1 : decide ((s : Int) ≥ 0) = true := by rw [decide_eq_true_iff]; omega
        have g2 : ((s : Int) == (s : Int)) = true := by simp
        clear hls hv
        go_wp2_with fail
        refine (pof_lit a n cap ks x s wr H1.out (by omega) HX.out HV.out).mono ?_
        rintro e w2 ⟨rfl, hb2⟩
        have O2 := Lib.hid (owns_below hO.out hb2)
        have B2 := Lib.hid (hB.out.trans (hb2.mono hB.out.size))
        clear hb2 e1 hO hB
        go_wp2_with (at_builtin; refine wpList_append_any rfl (.tmp 27) (.tmp 29) 22 rfl w.heap.size 9 i0 (.string ⟨#[]⟩) 1 16 Tryz.underlying22 hi hz0 hz1 hz2 rfl (by decide) _ P.length _ rfl (O2.out.alloc _) _ 1 1 _ rfl (some_none _) rfl (one_new _ _ _ _) (one_str _) (by unfold maxLen; omega) (by omega) (by have := B2.out.size; simp; omega) ?_; intro a3 c3 w3 hown3 hb3 hnil3)
        rw [← strsV_snoc] at hown3
        have O3 := Lib.hid hown3
        have B3 := Lib.hid ((B2.out.alloc B2.out.size _).trans hb3)
        clear hown3 hb3 hnil3
        go_roundw
        case rel => exact ⟨j + 1, P ++ [x], by omega, by simp; omega, by go_num, Lib.hid HL.out.symm, Lib.hid (by have := O3.out; simpa using this), B3⟩
        case measure => simp [intOf]; omega
      · have hls := sliceS_no ks (ws.take j) s x (by rw [hv]; exact hin)
        rw [← HT.out, ← hP.out] at hls
        have HL := Lib.hid hls
        have g2 : (v == (s : Int)) = false := by simpa using hin
        clear hls hv
        go_wp2_with fail
        refine (pof_lit a n cap ks x v wr H1.out (by omega) HX.out HV.out).mono ?_
        rintro e w2 ⟨rfl, hb2⟩
        have O2 := Lib.hid (owns_below hO.out hb2)
        have B2 := Lib.hid (hB.out.trans (hb2.mono hB.out.size))
        clear hb2 e1 hO hB
        by_cases hv0 : v ≥ 0
        · have g1 : decide (v ≥ 0) = true := decide_eq_true hv0
          go_wp2_with fail
          go_roundw
          case rel => exact ⟨j + 1, P, by omega, by omega, by go_num, Lib.hid HL.out.symm, O2, B2⟩
          case measure => simp [intOf]; omega
        · have g1 : decide (v ≥ 0) = false := decide_eq_false hv0
          go_wp2_with fail
          go_roundw
          case rel => exact ⟨j + 1, P, by omega, by omega, by go_num, Lib.hid HL.out.symm, O2, B2⟩
          case measure => simp [intOf]; omega
    · have hjn : ws.take j = ws := List.take_of_length_le (by omega)
      have hP2 := hP.out
      rw [hjn] at hP2
      have HP := Lib.hid hP2
      clear hP hP2 hjn
      obtain ⟨a4, c4, rfl⟩ : ∃ a4 c4, u7 = .slice a4 P.length c4 := by
        rcases hO.out.2 with ⟨h, h0⟩ | ⟨g', c', cur, h, _⟩
        · exact ⟨none, 0, by rw [h, h0]⟩
        · exact ⟨_, c', h⟩
      go_wp2_with fail
      go_ret
      exact ret_own HP.out rfl hO.out hB.out _ rfl
end Go.Proofs.YtbbholdadgjelaaGreat
/- contract of text.Asked -/
namespace Go.Proofs.YtbbholdadgjelaaGreat
open Go.RowKit
set_option linter.unusedVariables false
set_option maxRecDepth 20000
end Go.Proofs.YtbbholdadgjelaaGreat
/- Edit distances by a table: plain lemmas. -/
namespace Go.Proofs.YtbbholdadgjelaaGreat
set_option linter.unusedVariables false
set_option maxRecDepth 20000
namespace Ed
def cost (x y : Int) : Int := if x = y then 0 else 1
theorem cost_bd (x y : Int) : 0 ≤ cost x y ∧ cost x y ≤ 1 := by unfold cost; split <;> omega
/-- the distance of the first i of a and the first j of b -/
def L (a b : List Int) : Nat → Nat → Int
  | 0, j => j
  | i + 1, 0 => (i : Int) + 1
  | i + 1, j + 1 => min (min (L a b i j + cost (a.getD i 0) (b.getD j 0)) (L a b (i + 1) j + 1)) (L a b i (j + 1) + 1)
/-- a row of the table turned into the next one, for the rune r -/
def adv (R : List Int) (a : List Int) (r : Int) : Nat → Int
  | 0 => R.getD 0 0 + 1
  | i + 1 => min (min (R.getD i 0 + cost (a.getD i 0) r) (R.getD (i + 1) 0 + 1)) (adv R a r i + 1)
/-- the row of the first j of b -/
def row (a b : List Int) (j : Nat) : List Int := (List.range (a.length + 1)).map fun i => L a b i j
theorem row_length (a b : List Int) (j : Nat) : (row a b j).length = a.length + 1 := by simp [row]
theorem row_getD (a b : List Int) (j i : Nat) (h : i ≤ a.length) : (row a b j).getD i 0 = L a b i j := by
  simp [row, List.getD_eq_getElem?_getD, show i < a.length + 1 by omega]
theorem adv_row (a b : List Int) (j i : Nat) (h : i ≤ a.length) : adv (row a b j) a (b.getD j 0) i = L a b i (j + 1) := by
  induction i with
  | zero => rw [adv, row_getD a b j 0 (by omega)]; simp only [L]; omega
  | succ i ih => rw [adv, row_getD a b j i (by omega), row_getD a b j (i + 1) h, ih (by omega)]; simp only [L]
/-- the first k + 1 of a row turned, the rest as it was -/
def mix (R : List Int) (a : List Int) (r : Int) (k : Nat) : List Int := (List.range R.length).map fun i => if i ≤ k then adv R a r i else R.getD i 0
theorem mix_length (R a : List Int) (r : Int) (k : Nat) : (mix R a r k).length = R.length := by simp [mix]
theorem mix_old (R a : List Int) (r : Int) (k i : Nat) (h : i < R.length) (hk : k < i) : (mix R a r k).getD i 0 = R.getD i 0 := by
  simp [mix, List.getD_eq_getElem?_getD, h, show ¬ i ≤ k by omega]
theorem mix_new (R a : List Int) (r : Int) (k i : Nat) (h : i < R.length) (hk : i ≤ k) : (mix R a r k).getD i 0 = adv R a r i := by
  simp [mix, List.getD_eq_getElem?_getD, h, hk]
theorem mix_set (R a : List Int) (r : Int) (k : Nat) (h : k + 1 < R.length) : (mix R a r k).set (k + 1) (adv R a r (k + 1)) = mix R a r (k + 1) := by
  apply List.ext_getElem
  · simp [mix]
  · intro i h1 h2
    rw [List.getElem_set]
    simp only [mix, List.getElem_map, List.getElem_range]
    by_cases e : k + 1 = i
    · subst e; simp
    · rw [if_neg e]
      by_cases h3 : i ≤ k
      · simp [h3, show i ≤ k + 1 by omega]
      · simp [h3, show ¬ i ≤ k + 1 by omega]
theorem mix_zero (R a : List Int) (r : Int) (h : 0 < R.length) : R.set 0 (R.getD 0 0 + 1) = mix R a r 0 := by
  apply List.ext_getElem
  · simp [mix]
  · intro i h1 h2
    rw [List.getElem_set]
    simp only [mix, List.getElem_map, List.getElem_range]
    by_cases e : 0 = i
    · subst e; simp [adv]
    · rw [if_neg e, if_neg (by omega)]
      have h3 : i < R.length := by simpa using h1
      simp [List.getD_eq_getElem?_getD, h3]
theorem mix_all (a b : List Int) (j : Nat) : mix (row a b j) a (b.getD j 0) a.length = row a b (j + 1) := by
  unfold mix
  rw [row_length]
  refine List.map_congr_left fun i hi => ?_
  have := List.mem_range.1 hi
  rw [if_pos (by omega), adv_row a b j i (by omega)]
theorem adv_bd (R a : List Int) (r M : Int) (hM : 0 ≤ M) (h : ∀ i, 0 ≤ R.getD i 0 ∧ R.getD i 0 ≤ M) (i : Nat) : 0 ≤ adv R a r i ∧ adv R a r i ≤ M + 1 := by
  induction i with
  | zero => have := h 0; simp only [adv]; omega
  | succ i ih => have h1 := h i; have h2 := h (i + 1); have h3 := cost_bd (a.getD i 0) r; simp only [adv]; omega
theorem L_bd (a b : List Int) : ∀ i j, 0 ≤ L a b i j ∧ L a b i j ≤ (i : Int) + j := by
  intro i
  induction i with
  | zero => intro j; simp only [L]; omega
  | succ i ih =>
    intro j
    induction j with
    | zero => simp only [L]; omega
    | succ j ihj => have h1 := ih j; have h2 := ih (j + 1); have h3 := cost_bd (a.getD i 0) (b.getD j 0); simp only [L]; omega
theorem row_bd (a b : List Int) (j : Nat) : ∀ i, 0 ≤ (row a b j).getD i 0 ∧ (row a b j).getD i 0 ≤ (a.length : Int) + j := by
  intro i
  by_cases h : i ≤ a.length
  · rw [row_getD a b j i h]; have := L_bd a b i j; omega
  · have : (row a b j).getD i 0 = 0 := by
      rw [List.getD_eq_getElem?_getD, List.getElem?_eq_none (by rw [row_length]; omega)]; rfl
    omega
end Ed
end Go.Proofs.YtbbholdadgjelaaGreat
/- contracts of rows: the first row of a table, and a row turned into the next one -/
namespace Go.Proofs.YtbbholdadgjelaaGreat
open Go.RowKit
set_option linter.unusedVariables false
set_option maxRecDepth 20000
def intsV (zs : List Int) : List Value := zs.map (Value.int .i64)
theorem int_info : (Tryz.prog.info? 3).map (fun i => (i.zero, i.size, i.bytes)) = some (some (.int .i64 0), 1, 8) := by kernel_rfl
theorem intsV_set (zs : List Int) (j : Nat) (x : Int) : (intsV zs).set j (.int .i64 x) = intsV (zs.set j x) := by simp [intsV, List.map_set]
theorem intsV_at (zs : List Int) (j : Nat) (h : j < zs.length) : (intsV zs)[j]? = some (.int .i64 (zs.getD j 0)) := by simp [intsV, List.getD_eq_getElem?_getD, h]
theorem intsV_one (zs : List Int) : ∀ u ∈ intsV zs, u.oneCell' = true := ints_oneCell _ _
/-- the numbers from 0 on, the first k; 0 behind them -/
def upTo (n k : Nat) : List Int := (List.range n).map fun i => if i < k then (i : Int) else 0
theorem upTo_set (n k : Nat) (h : k < n) : (upTo n k).set k (k : Int) = upTo n (k + 1) := by
  apply List.ext_getElem
  · simp [upTo]
  · intro i h1 h2
    rw [List.getElem_set]
    simp only [upTo, List.getElem_map, List.getElem_range]
    by_cases e : k = i
    · subst e; simp
    · rw [if_neg e]
      by_cases h3 : i < k
      · simp [h3, show i < k + 1 by omega]
      · simp [h3, show ¬ i < k + 1 by omega]
theorem upTo_zero (n : Nat) : intsV (upTo n 0) = List.replicate n (.int .i64 0) := by
  apply List.ext_getElem
  · simp [intsV, upTo]
  · intro i h1 h2; simp [intsV, upTo]
theorem upTo_row (a b : List Int) : upTo (a.length + 1) (a.length + 1) = Ed.row a b 0 := by
  unfold upTo Ed.row
  refine List.map_congr_left fun i hi => ?_
  have := List.mem_range.1 hi
  rw [if_pos (by omega)]
  cases i with
  | zero => simp only [Ed.L]
  | succ i => simp only [Ed.L]; omega
theorem upTo_length (n k : Nat) : (upTo n k).length = n := by simp [upTo]
end Go.Proofs.YtbbholdadgjelaaGreat
/- contract of rows.Advance: a row of a table turned into the next one, in place -/
namespace Go.Proofs.YtbbholdadgjelaaGreat
open Go.RowKit
set_option linter.unusedVariables false
set_option maxRecDepth 20000
theorem cost_eq (x : Int) : Ed.cost x x = 0 := by simp [Ed.cost]
theorem cost_ne {x y : Int} (h : x ≠ y) : Ed.cost x y = 1 := by simp [Ed.cost, h]
theorem store_grown (w : World) (g i : Nat) (v : Value) : w.grownBy (w.setCell ⟨g, i, none⟩ v) (some g) :=
  ⟨rfl, rfl, rfl, by simp [World.setCell], fun k _ hk => Below.heap_setCell _ _ _ _ (fun e => hk (by rw [e]))⟩
theorem grown_trans {a b c : World} {r : Option Nat} (h : a.grownBy b r) (k : b.grownBy c r) : a.grownBy c r :=
  ⟨k.os.trans h.os, k.tape.trans h.tape, k.output.trans h.output, Nat.le_trans h.size k.size, fun i hi hr => (k.block i (Nat.lt_of_lt_of_le hi h.size) hr).trans (h.block i hi hr)⟩
theorem own_val {w : World} {p : Addr} {base : Nat} {e : TypeId} {size : Nat} {v : Value} {n : Nat} {xs : List Value} {V x : Int} (h : (w.setCell p (.int .i64 V)).ownsRow base e size v n xs) (hx : x = V) : (w.setCell p (.int .i64 x)).ownsRow base e size v n xs := by
  rw [hx]; exact h
end Go.Proofs.YtbbholdadgjelaaGreat
/- contract of text.Runes -/
namespace Go.Proofs.YtbbholdadgjelaaGreat
open Go.RowKit
set_option linter.unusedVariables false
set_option maxRecDepth 20000
end Go.Proofs.YtbbholdadgjelaaGreat
/- rows in memory: preliminaries -/
namespace Go.Proofs.YtbbholdadgjelaaGreat
open Go.RowKit
set_option linter.unusedVariables false
set_option maxRecDepth 20000
theorem holdsI_lt {k : IntKind} {w : World} {a : Option Addr} {n : Nat} {zs : List Int} (h : HoldsI k w a n zs) : ∀ b o, 0 < n → a = some ⟨b, o, none⟩ → b < w.heap.size := by
  intro b o h0 ha
  obtain ⟨b2, o2, hb, hc⟩ := h.2 h0
  rw [ha] at hb
  injection hb with hb
  injection hb with hb1 hb2
  subst hb1
  have := hc 0 h0
  exact lt_of_cell this
/-- A row of distances that the call made. -/
def RetRow (w : World) (ra rb : List Int) (j : Nat) (g : Nat) (c : Nat) (w' : World) : Prop :=
  w'.ownsRow w.heap.size 3 1 (.slice (some ⟨g, 0, none⟩) (ra.length + 1) c) (ra.length + 1) (intsV (Ed.row ra rb j)) ∧ Below w.heap.size w w'
end Go.Proofs.YtbbholdadgjelaaGreat
/- contract of edit.Distance -/
namespace Go.Proofs.YtbbholdadgjelaaGreat
open Go.RowKit
set_option linter.unusedVariables false
set_option maxRecDepth 20000
/-- the distance of two strings, or -1 -/
def distS (a b : ByteArray) : Int := if 0 ≤ lenS a ∧ 0 ≤ lenS b then Ed.L (intsN (runesS a)) (intsN (runesS b)) (runesS a).length (runesS b).length else -1
theorem intsN_length (P : List Nat) : (intsN P).length = P.length := by simp [intsN]
theorem intsN_at {s : ByteArray} {P Q : List Nat} {r : Nat} (h : runesS s = P ++ r :: Q) : (intsN (runesS s)).getD P.length 0 = (r : Int) := by
  rw [h]; simp [intsN, List.getD_eq_getElem?_getD]
end Go.Proofs.YtbbholdadgjelaaGreat
/- Edit distances: lists that have no rune together, lists that have one; how much one step changes. -/
namespace Go.Proofs.YtbbholdadgjelaaGreat
set_option linter.unusedVariables false
set_option maxRecDepth 20000
namespace Ed
theorem L_zero (a b : List Int) (i : Nat) : L a b i 0 = (i : Int) := by
  cases i with
  | zero => simp only [L]
  | succ i => simp only [L]; omega
theorem L_zeroL (a b : List Int) (j : Nat) : L a b 0 j = (j : Int) := by simp only [L]
theorem L_left (a b : List Int) (i j : Nat) : L a b (i + 1) j ≤ L a b i j + 1 := by
  cases j with
  | zero => rw [L_zero, L_zero]; omega
  | succ j => simp only [L]; omega
theorem L_right (a b : List Int) (i j : Nat) : L a b i (j + 1) ≤ L a b i j + 1 := by
  cases i with
  | zero => rw [L_zeroL, L_zeroL]; omega
  | succ i => simp only [L]; omega
theorem L_lefts (a b : List Int) (i j p : Nat) : L a b (i + p) j ≤ L a b i j + p := by
  induction p with
  | zero => simp
  | succ p ih => have := L_left a b (i + p) j; rw [← Nat.add_assoc]; omega
theorem L_rights (a b : List Int) (i j p : Nat) : L a b i (j + p) ≤ L a b i j + p := by
  induction p with
  | zero => simp
  | succ p ih => have := L_right a b i (j + p); rw [← Nat.add_assoc]; omega
theorem L_apart (a b : List Int) (h : ∀ i j, i < a.length → j < b.length → a.getD i 0 ≠ b.getD j 0) : ∀ i j, i ≤ a.length → j ≤ b.length → L a b i j = ((max i j : Nat) : Int) := by
  intro i
  induction i with
  | zero => intro j _ _; rw [L_zeroL]; simp
  | succ i ih =>
    intro j hi
    induction j with
    | zero => intro _; rw [L_zero]; simp
    | succ j ihj =>
      intro hj
      have h1 := ih j (by omega) (by omega)
      have h2 := ih (j + 1) (by omega) hj
      have h3 := ihj (by omega)
      have hc : cost (a.getD i 0) (b.getD j 0) = 1 := by unfold cost; rw [if_neg (h i j (by omega) (by omega))]
      simp only [L]
      rw [h1, h2, h3, hc]
      omega
theorem L_meet (a b : List Int) (i j : Nat) (hi : i < a.length) (hj : j < b.length) (h : a.getD i 0 = b.getD j 0) : L a b a.length b.length < (a.length : Int) + b.length := by
  have h1 : L a b (i + 1) (j + 1) ≤ L a b i j := by
    have hc : cost (a.getD i 0) (b.getD j 0) = 0 := by unfold cost; rw [if_pos h]
    simp only [L]; rw [hc]; omega
  have h2 := L_bd a b i j
  have h3 := L_lefts a b (i + 1) (j + 1) (a.length - (i + 1))
  have h4 := L_rights a b a.length (j + 1) (b.length - (j + 1))
  rw [show i + 1 + (a.length - (i + 1)) = a.length by omega] at h3
  rw [show j + 1 + (b.length - (j + 1)) = b.length by omega] at h4
  omega
end Ed
end Go.Proofs.YtbbholdadgjelaaGreat
/- Edit distances are a metric. -/
namespace Go.Proofs.YtbbholdadgjelaaGreat
set_option linter.unusedVariables false
set_option maxRecDepth 20000
namespace Ed
theorem cost_sym (x y : Int) : cost x y = cost y x := by
  unfold cost
  by_cases h : x = y
  · rw [if_pos h, if_pos h.symm]
  · rw [if_neg h, if_neg (fun e => h e.symm)]
theorem cost_tri (x y z : Int) : cost x z ≤ cost x y + cost y z := by
  unfold cost
  by_cases h : x = y
  · by_cases h2 : y = z
    · rw [if_pos h, if_pos h2, if_pos (h.trans h2)]; omega
    · rw [if_pos h, if_neg h2]; split <;> omega
  · rw [if_neg h]; split <;> split <;> omega
theorem L_sym (a b : List Int) : ∀ i j, L a b i j = L b a j i := by
  intro i
  induction i with
  | zero => intro j; rw [L_zeroL, L_zero]
  | succ i ih =>
    intro j
    induction j with
    | zero => rw [L_zero, L_zeroL]
    | succ j ihj =>
      have h1 := ih j; have h2 := ih (j + 1); have h3 := cost_sym (a.getD i 0) (b.getD j 0)
      simp only [L]
      rw [h1, h2, ihj, h3]
      omega
theorem L_low (a b : List Int) : ∀ (i j : Nat), (i : Int) - j ≤ L a b i j ∧ (j : Int) - i ≤ L a b i j := by
  intro i
  induction i with
  | zero => intro j; rw [L_zeroL]; omega
  | succ i ih =>
    intro j
    induction j with
    | zero => rw [L_zero]; omega
    | succ j ihj => have h1 := ih j; have h2 := ih (j + 1); have h3 := cost_bd (a.getD i 0) (b.getD j 0); simp only [L]; omega
theorem L_diag (a b : List Int) (i j : Nat) : L a b (i + 1) (j + 1) ≤ L a b i j + cost (a.getD i 0) (b.getD j 0) := by
  simp only [L]; omega
theorem L_up (a b : List Int) : ∀ i j, L a b i j ≤ ((max i j : Nat) : Int) := by
  intro i
  induction i with
  | zero => intro j; rw [L_zeroL]; omega
  | succ i ih =>
    intro j
    cases j with
    | zero => rw [L_zero]; omega
    | succ j => have h1 := ih j; have h2 := L_diag a b i j; have h3 := cost_bd (a.getD i 0) (b.getD j 0); omega
theorem L_same (a : List Int) : ∀ i, L a a i i = 0 := by
  intro i
  induction i with
  | zero => rw [L_zeroL]; rfl
  | succ i ih =>
    have h1 := L_diag a a i i
    have h2 := (L_bd a a (i + 1) (i + 1)).1
    have h3 : cost (a.getD i 0) (a.getD i 0) = 0 := by unfold cost; rw [if_pos rfl]
    omega
theorem L_none (a b : List Int) : ∀ i, L a b i i = 0 → ∀ t, t < i → a.getD t 0 = b.getD t 0 := by
  intro i
  induction i with
  | zero => intro _ t h; omega
  | succ i ih =>
    intro h t ht
    have h1 := L_bd a b i i; have h2 := L_bd a b (i + 1) i; have h3 := L_bd a b i (i + 1); have h4 := cost_bd (a.getD i 0) (b.getD i 0)
    simp only [L] at h
    have h5 : L a b i i = 0 := by omega
    have h6 : cost (a.getD i 0) (b.getD i 0) = 0 := by omega
    rcases Nat.lt_or_ge t i with h7 | h7
    · exact ih h5 t h7
    · obtain rfl : t = i := by omega
      unfold cost at h6
      split at h6
      · assumption
      · omega
theorem L_zero_iff (a b : List Int) : L a b a.length b.length = 0 ↔ a = b := by
  constructor
  · intro h
    have h1 := L_low a b a.length b.length
    have hl : a.length = b.length := by omega
    rw [← hl] at h
    have h2 := L_none a b a.length h
    apply List.ext_getElem hl
    intro i h3 h4
    have h5 := h2 i h3
    simpa [List.getD_eq_getElem?_getD, h3, h4] using h5
  · rintro rfl; exact L_same a _
theorem L_tri (a b c : List Int) : ∀ n i j k, i + j + k ≤ n → L a c i k ≤ L a b i j + L b c j k := by
  intro n
  induction n with
  | zero =>
    intro i j k h
    obtain rfl : i = 0 := by omega
    obtain rfl : j = 0 := by omega
    obtain rfl : k = 0 := by omega
    simp only [L]; omega
  | succ n ih =>
    intro i j k h
    cases i with
    | zero => rw [L_zeroL, L_zeroL]; have := L_low b c j k; omega
    | succ i =>
      cases k with
      | zero => rw [L_zero, L_zero]; have := L_low a b (i + 1) j; omega
      | succ k =>
        cases j with
        | zero => rw [L_zero, L_zeroL]; have := L_bd a c (i + 1) (k + 1); omega
        | succ j =>
          have i1 := ih i (j + 1) (k + 1) (by omega)
          have i2 := ih (i + 1) (j + 1) k (by omega)
          have i3 := ih (i + 1) j (k + 1) (by omega)
          have i4 := ih (i + 1) j k (by omega)
          have i5 := ih i j (k + 1) (by omega)
          have i6 := ih i j k (by omega)
          have u1 := L_left a c i (k + 1)
          have u2 := L_right a c (i + 1) k
          have u3 := L_diag a c i k
          have c1 := cost_bd (a.getD i 0) (b.getD j 0); have c2 := cost_bd (b.getD j 0) (c.getD k 0)
          have t := cost_tri (a.getD i 0) (b.getD j 0) (c.getD k 0)
          have x1 : L a b (i + 1) (j + 1) = min (min (L a b i j + cost (a.getD i 0) (b.getD j 0)) (L a b (i + 1) j + 1)) (L a b i (j + 1) + 1) := by simp only [L]
          have x2 : L b c (j + 1) (k + 1) = min (min (L b c j k + cost (b.getD j 0) (c.getD k 0)) (L b c (j + 1) k + 1)) (L b c j (k + 1) + 1) := by simp only [L]
          omega
end Ed
end Go.Proofs.YtbbholdadgjelaaGreat
/- a list of texts as argument, opened -/
namespace Go.Proofs.YtbbholdadgjelaaGreat
open Go.ChangeShapes Go.WideShapes Go.ChangeAt Go.RowKit
set_option linter.unusedVariables false
set_option maxRecDepth 20000
theorem Tryz.cellsStr : Tryz.prog.cellsOf 9 = 1 := by kernel_rfl
theorem open_texts_arg {H : Type} {enc : TypeId × Value → H} {W : World} {base : Nat} {v : Value} {d : DataW H} {p : List MemPlace}
    (o : Value.okWide Tryz.prog W .any base 22 v) (h : DataW.Trod enc Tryz.prog W 0 (fun _ => true) true 22 v d p) :
    ∃ a n cap ts, v = .slice a n cap ∧ HoldsT W a n ts ∧ (a = none → n = 0 ∧ cap = 0) ∧ n ≤ cap ∧ n ≤ 9223372036854775807 ∧ ∀ t ∈ ts, t.size ≤ 9223372036854775807 := by
  obtain ⟨a, len, cap, rfl⟩ := okWide_slice Tryz.underlying22 o
  obtain ⟨fuel, hf⟩ := h
  rcases open_strings Tryz.underlying22 Tryz.underlying9 Tryz.cellsStr hf with ⟨hcs, _⟩ | ⟨x, l, c, ss, hcs, _, hl, hm, hz, _, hcell, hsz⟩
  · simp [Value.cells] at hcs
    obtain ⟨rfl, rfl, rfl⟩ := hcs
    exact ⟨none, 0, 0, [], rfl, HoldsT.nil _ _, fun _ => ⟨rfl, rfl⟩, Nat.le_refl _, by omega, by simp⟩
  · simp [Value.cells] at hcs
    obtain ⟨rfl, rfl, rfl⟩ := hcs
    have hzc : ss.length = cap := by simpa using hz
    refine ⟨some x, len, cap, ss.take len, rfl, ?_, (fun h => by cases h), hl, by unfold maxLen at hm; omega, fun t ht => by have := hsz t (List.mem_of_mem_take ht); unfold maxLen at this; omega⟩
    refine ⟨by simp [strsV]; omega, fun h0 => ?_⟩
    obtain ⟨b, off, spot⟩ := x
    have hspot : spot = none := by simpa [Addr.add] using World.cell?_spot (hcell 0 (by omega))
    subst hspot
    refine ⟨b, off, rfl, fun i hi => ?_⟩
    rw [← Go.WideShapes.add_plain, hcell i (by omega), getD_map_str _ i (by simp; omega)]
    congr 2
    simp only [List.getD_eq_getElem?_getD, List.getElem?_take]
    rw [if_pos hi]
end Go.Proofs.YtbbholdadgjelaaGreat
/- the laws of cuts: no word of a shard is nearer -/
namespace Go.Proofs.YtbbholdadgjelaaGreat
open Go.RowKit
set_option linter.unusedVariables false
set_option maxRecDepth 20000
theorem ofN_below {ks : List KV} {k : KV} {i : Nat} (h : i < ofN ks k) (hi : i < ks.length) : ¬ ordK k (ks.getD i k0) < 0 := by
  have := List.not_of_lt_findIdx h
  have e : ks.getD i k0 = ks[i] := by simp [List.getD_eq_getElem?_getD, hi]
  rw [e]; simpa using this
theorem ofN_at {ks : List KV} {k : KV} (h : ofN ks k < ks.length) : ordK k (ks.getD (ofN ks k) k0) < 0 := by
  have h3 : decide (ordK k ks[ofN ks k] < 0) = true := List.findIdx_getElem (w := h)
  have e : ks.getD (ofN ks k) k0 = ks[ofN ks k] := by simp [List.getD_eq_getElem?_getD, h]
  rw [e]; exact of_decide_eq_true h3
theorem cmpS_empty (t : Tx) : ¬ cmpS t ByteArray.empty < 0 := by
  rw [cmpS_lt]
  have h : (ByteArray.empty).toList = [] := by rw [ByteArray.toList_eq]; rfl
  rw [h]
  exact List.not_lt_nil _
/-- the lengths that words of a shard have -/
theorem lens_of {ks : List KV} {t : Tx} (hw : wordP t) : loK ks (ofN ks (keyOf t)) ≤ lenS t ∧ lenS t ≤ hiK ks (ofN ks (keyOf t)) := by
  obtain ⟨s, hs⟩ : ∃ s, ofN ks (keyOf t) = s := ⟨_, rfl⟩
  have hle := ofN_le ks (keyOf t)
  have h1 := fun i => @ofN_below ks (keyOf t) i
  have h2 := @ofN_at ks (keyOf t)
  rw [hs] at hle h1 h2
  rw [hs]
  constructor
  · unfold loK
    split
    · have h3 := h1 (s - 1) (by omega) (by omega)
      rw [ordK_lt] at h3
      unfold keyOf at h3
      simp only at h3
      omega
    · exact hw.1
  · unfold hiK
    split
    · rename_i h4
      have h3 := h2 h4
      rw [ordK_lt] at h3
      unfold keyOf at h3
      simp only at h3
      split
      · rename_i h5
        rw [h5] at h3
        rcases h3 with h3 | h3
        · omega
        · exact absurd h3.2 (cmpS_empty t)
      · omega
    · exact hw.2
theorem dist_low {a b : Tx} (ha : 0 ≤ lenS a) (hb : 0 ≤ lenS b) : lenS a - lenS b ≤ distS a b ∧ lenS b - lenS a ≤ distS a b := by
  unfold distS
  rw [if_pos ⟨ha, hb⟩]
  have h := Ed.L_low (intsN (runesS a)) (intsN (runesS b)) (runesS a).length (runesS b).length
  have h1 := (lenS_pos ha).2
  have h2 := (lenS_pos hb).2
  omega
theorem least_low {ks : List KV} {t u : Tx} (hw : wordP t) (hu : 0 ≤ lenS u) : 0 ≤ leastK ks (ofN ks (keyOf t)) (lenS u) ∧ leastK ks (ofN ks (keyOf t)) (lenS u) ≤ distS t u := by
  obtain ⟨h1, h2⟩ := lens_of (ks := ks) hw
  have hwl := hw.1
  obtain ⟨h3, h4⟩ := dist_low (a := t) (b := u) (by omega) hu
  unfold leastK
  rw [if_neg (by omega)]
  have h0 : 0 ≤ distS t u := by
    unfold distS; rw [if_pos ⟨by omega, hu⟩]
    exact (Ed.L_bd _ _ _ _).1
  omega
end Go.Proofs.YtbbholdadgjelaaGreat
/- small facts on lists of texts -/
namespace Go.Proofs.YtbbholdadgjelaaGreat
open Go.RowKit
set_option linter.unusedVariables false
set_option maxRecDepth 20000
theorem drop_cons (ts : List Tx) (j : Nat) (h : j < ts.length) : ts.drop j = ts.getD j ByteArray.empty :: ts.drop (j + 1) := by
  rw [List.drop_eq_getElem_cons h]
  simp [List.getD_eq_getElem?_getD, h]
theorem compare_lit (x y : Tx) (v : Int) (hv : cmpS x y = v) (w : World) : Calls Tryz.prog 52 #[.string x, .string y] w fun e w' => e = .returned (.int .i64 v) ∧ w = w' := by subst hv; exact compare_any x y w
end Go.Proofs.YtbbholdadgjelaaGreat
/- contract of list.Merge -/
namespace Go.Proofs.YtbbholdadgjelaaGreat
open Go.RowKit
set_option linter.unusedVariables false
set_option maxRecDepth 20000
/-- 'make([]T, 0, c)': a slice of the call's own with room -/
theorem wpList_make_room {P : Program} (w : World) {ops : Array Oper} {rest : List Oper} {o : Oper} {a : Act} {Q : Exit → Act → World → Prop}
    (hg : o.guard = none) (l c : Operand) (t : TypeId) (hop : o.op = Op.makeSlice t l c)
    (e : TypeId) (i : TypeInfo) (z : Value) (bytes : Nat) (ht : P.underlying t = some (.slice e)) (hi : P.info? e = some i) (hz : i.zero = some z) (hsize : i.size = 1) (hby : i.bytes = bytes) (hz1 : z.cells = #[z])
    (base n : Nat) (hl : a.eval l = .int .i64 0) (cv : Int) (hc : a.eval c = .int .i64 cv) (hcv : cv = (n : Int)) (hbytes : bytes * n ≤ 281474976710656) (h63 : n ≤ maxLen) (hbase : base ≤ w.heap.size)
    (hK : ∀ w', w'.ownsRow base e 1 (.slice (some ⟨w.heap.size, 0, none⟩) 0 n) 0 [] → Below base w w' → wpList P ops Q rest (a.put o.dst (.slice (some ⟨w.heap.size, 0, none⟩) 0 n)) w') :
    wpList P ops Q (o :: rest) a w := by
  subst hcv
  refine wpList_plain hg fun K hK' => ?_
  have hb' : (i.bytes : Int) * (n : Int) ≤ 281474976710656 := by
    rw [hby]
    have h : ((bytes * n : Nat) : Int) ≤ 281474976710656 := by omega
    rwa [Int.natCast_mul] at h
  have hrun := run_make (P := P) w t e i z ht hi hz .i64 .i64 0 n (Int.le_refl _) (by omega) hb' (by unfold maxLen at h63; omega)
  simp only [Int.toNat_natCast, Int.toNat_zero, hsize, Nat.mul_one, hz1] at hrun
  unfold Oper.wp
  simp [execOp, hop, hl, hc, hrun, Result.andThen]
  refine hK' _ _ (hK _ ?_ ((Below.refl _ _).alloc hbase _))
  exact ⟨rfl, .inr ⟨w.heap.size, n, _, rfl, hbase, heap_alloc_new w _, Nat.zero_le _, h63, by simp [madeCells], by simp⟩⟩
theorem mergeL_lt {x y : Tx} {xs ys : List Tx} (h : cmpS x y < 0) : mergeL (x :: xs) (y :: ys) = x :: mergeL xs (y :: ys) := by rw [mergeL_cons, if_pos h]
theorem mergeL_eq {x y : Tx} {xs ys : List Tx} (h : cmpS x y = 0) : mergeL (x :: xs) (y :: ys) = x :: mergeL xs ys := by rw [mergeL_cons, if_neg (by omega), if_pos h]
theorem mergeL_gt {x y : Tx} {xs ys : List Tx} (h : 0 < cmpS x y) : mergeL (x :: xs) (y :: ys) = y :: mergeL (x :: xs) ys := by rw [mergeL_cons, if_neg (by omega), if_neg (by omega)]
theorem merge_step {M P : List Tx} {x y : Tx} {xs ys : List Tx} {i j : Nat} (hM : M = P ++ mergeL (xs.drop i) (ys.drop j)) (hx : xs.drop i = x :: xs.drop (i + 1)) (hy : ys.drop j = y :: ys.drop (j + 1)) :
    (cmpS x y < 0 → M = (P ++ [x]) ++ mergeL (xs.drop (i + 1)) (ys.drop j)) ∧ (cmpS x y = 0 → M = (P ++ [x]) ++ mergeL (xs.drop (i + 1)) (ys.drop (j + 1))) ∧ (0 < cmpS x y → M = (P ++ [y]) ++ mergeL (xs.drop i) (ys.drop (j + 1))) := by
  refine ⟨fun h => ?_, fun h => ?_, fun h => ?_⟩
  · rw [hM, hx, hy, mergeL_lt h, List.append_assoc]; rfl
  · rw [hM, hx, hy, mergeL_eq h, List.append_assoc]; rfl
  · rw [hM, hx, hy, mergeL_gt h, List.append_assoc]; rfl
theorem HoldsT.tail {w : World} {b o m : Nat} {ts : List Tx} (h : HoldsT w (some ⟨b, o, none⟩) (m + 1) ts) : HoldsT w (some ⟨b, o + 1, none⟩) m (ts.drop 1) := by
  have := h.drop 1 (by omega)
  simpa using this
theorem HoldsT.tail' {w : World} {b o q c : Nat} {ts : List Tx} (h : HoldsT w (some ⟨b, o, none⟩) (q + 1) ts) (hc : q + 1 ≤ c) : HoldsT w (if c = 1 then some ⟨b, o, none⟩ else some ⟨b, o + 1, none⟩) q (ts.drop 1) := by
  split
  · obtain rfl : q = 0 := by omega
    have := h.tail
    exact ⟨this.1, fun h => absurd h (by omega)⟩
  · exact h.tail
theorem ite_none {p : Prop} {c : Prop} [Decidable c] (a b : Addr) : ((if c then some a else some b) = none) → p := by split <;> exact fun h => by cases h
def lenV : Value → Nat | .slice _ n _ => n | _ => 0
end Go.Proofs.YtbbholdadgjelaaGreat
/- the law that each word is one shard's -/
namespace Go.Proofs.YtbbholdadgjelaaGreat
open Go.RowKit
set_option linter.unusedVariables false
set_option maxRecDepth 20000
def belowS (ks : List KV) (ws : List Tx) (s : Nat) : List Tx := ws.filter fun t => decide (ofZ ks t < (s : Int))
theorem pwhole_merge {ks : List KV} {ws : List Tx} (hs : SortedS ws) (s : Nat) : mergeL (belowS ks ws s) (sliceS ks ws s) = belowS ks ws (s + 1) := by
  refine sorted_unique (mergeL_sorted _ _ _ (Nat.le_refl _) (sorted_filter _ hs) (sorted_filter _ hs)) (sorted_filter _ hs) fun z => ?_
  rw [mem_mergeL]
  unfold belowS sliceS
  simp only [List.mem_filter, decide_eq_true_eq]
  constructor
  · rintro (⟨h, k⟩ | ⟨h, k⟩)
    · exact ⟨h, by omega⟩
    · exact ⟨h, by omega⟩
  · rintro ⟨h, k⟩
    by_cases h2 : ofZ ks z < (s : Int)
    · exact Or.inl ⟨h, h2⟩
    · exact Or.inr ⟨h, by omega⟩
theorem pwhole_len (ks : List KV) (s : Nat) : ∀ ws : List Tx, (belowS ks ws (s + 1)).length = (belowS ks ws s).length + (sliceS ks ws s).length
  | [] => rfl
  | t :: ws => by
    have ih := pwhole_len ks s ws
    unfold belowS sliceS at ih ⊢
    simp only [List.filter_cons]
    rcases Int.lt_trichotomy (ofZ ks t) (s : Int) with h | h | h
    · rw [if_pos (by simp; omega), if_pos (by simp; omega), if_neg (by simp; omega), List.length_cons, List.length_cons]; omega
    · rw [if_pos (by simp; omega), if_neg (by simp; omega), if_pos (by simp; omega), List.length_cons, List.length_cons]; omega
    · rw [if_neg (by simp; omega), if_neg (by simp; omega), if_neg (by simp; omega)]; omega
theorem pwhole_zero {ks : List KV} {ws : List Tx} (hw : ∀ t ∈ ws, wordP t) : belowS ks ws 0 = [] := by
  unfold belowS
  rw [List.filter_eq_nil_iff]
  intro t ht
  rw [ofZ_word (hw t ht)]
  simp
theorem pwhole_all {ks : List KV} {ws : List Tx} (hw : ∀ t ∈ ws, wordP t) : belowS ks ws (ks.length + 1) = ws := by
  unfold belowS
  rw [List.filter_eq_self]
  intro t ht
  rw [ofZ_word (hw t ht), decide_eq_true_iff]
  have := ofN_le ks (keyOf t)
  omega
theorem pwhole_none {ks : List KV} {ws : List Tx} (hw : ∀ t ∈ ws, wordP t) : sliceS ks ws (ks.length + 1) = [] := by
  unfold sliceS
  rw [List.filter_eq_nil_iff]
  intro t ht
  rw [ofZ_word (hw t ht)]
  have := ofN_le ks (keyOf t)
  simp; omega
theorem in_shard {ks : List KV} {ws : List Tx} {s : Nat} {t : Tx} (hw : ∀ t ∈ ws, wordP t) (h : t ∈ sliceS ks ws s) : t ∈ ws ∧ ofZ ks t = (s : Int) ∧ loK ks s ≤ lenS t ∧ lenS t ≤ hiK ks s := by
  obtain ⟨h1, h2⟩ := List.mem_filter.1 h
  rw [decide_eq_true_eq] at h2
  have h3 := h2
  rw [ofZ_word (hw t h1)] at h3
  have h4 : ofN ks (keyOf t) = s := by omega
  have h5 := lens_of (ks := ks) (hw t h1)
  rw [h4] at h5
  exact ⟨h1, h2, h5⟩
def LstP (w : World) (a : Option Addr) (n c : Nat) (ts : List Tx) : Prop := HoldsT w a n ts ∧ (a = none → n = 0 ∧ c = 0) ∧ n ≤ c
theorem LstP.below {w w' : World} {a : Option Addr} {n c : Nat} {ts : List Tx} (h : LstP w a n c ts) (hb : Below w.heap.size w w') : LstP w' a n c ts := ⟨h.1.below hb, h.2⟩
theorem LstP.own {w : World} {B : Nat} {a : Option Addr} {n c : Nat} {ts : List Tx} (h : w.ownsRow B 9 1 (.slice a n c) n (strsV ts)) : LstP w a n c ts := ⟨HoldsT.own h, owns_none h⟩
theorem greatT_lit (a : Option Addr) (n cap : Nat) (ts : List Tx) (b : Bool) (w : World) (hh : HoldsT w a n ts) (hn : n ≤ 9223372036854775807) (hsz : ∀ t ∈ ts, t.size ≤ 9223372036854775807) (hb : greatB ts = b) :
    Calls Tryz.prog 21 #[.slice a n cap] w fun e w' => e = .returned (.bool b) ∧ Below w.heap.size w w' := by subst hb; exact great_any a n cap ts w hh hn hsz
theorem goodT_lit (a : Option Addr) (n cap : Nat) (ts : List Tx) (v : Int) (w : World) (hh : HoldsT w a n ts) (hn : n ≤ 9223372036854775807) (hsz : ∀ t ∈ ts, t.size ≤ 9223372036854775807) (hv : goodV ts = v) :
    Calls Tryz.prog 35 #[.slice a n cap] w fun e w' => e = .returned (.int .i64 v) ∧ Below w.heap.size w w' := by subst hv; exact good_any' a n cap ts w hh hn hsz
theorem sliceP_lst (a : Option Addr) (n cap : Nat) (ks : List KV) (a1 : Option Addr) (n1 cap1 : Nat) (ws zs : List Tx) (s k : Nat) (w : World) (hh : HoldsK w a n ks) (hh1 : HoldsT w a1 n1 ws) (hn : n ≤ 1000) (hn1 : n1 ≤ 1000) (hs : s ≤ 1000) (hsz : ∀ t ∈ ws, t.size ≤ 9223372036854775807) (hz : sliceS ks ws s = zs) (hk : zs.length = k) :
    Calls Tryz.prog 58 #[.slice a n cap, .slice a1 n1 cap1, .int .i64 s] w fun e w' => ∃ a' c', e = .returned (.slice a' k c') ∧ LstP w' a' k c' zs ∧ Below w.heap.size w w' := by
  subst hz hk
  exact (slice_any a n cap ks a1 n1 cap1 ws s w hh hh1 hn hn1 hs hsz).mono fun _ _ ⟨a', c', h1, h2, h3⟩ => ⟨a', c', h1, LstP.own h2, h3⟩
end Go.Proofs.YtbbholdadgjelaaGreat
/- place: Shards, hasShard, GreatConfig, Words -/
namespace Go.Proofs.YtbbholdadgjelaaGreat
open Go.RowKit
set_option linter.unusedVariables false
set_option maxRecDepth 20000
theorem may_parts {c : Cfg} (h : c.may = true) : goodV c.ws = 0 ∧ goodK c.ks = 0 ∧ (1 ≤ c.W ∧ c.W ≤ 5) ∧ (1 ≤ c.C ∧ c.C ≤ 3 ∧ c.C ≤ c.W) ∧ (1 ≤ c.S ∧ c.S ≤ 4) ∧ (1 ≤ c.B ∧ c.B ≤ 5) ∧ (1 ≤ c.L ∧ c.L ≤ 1000) ∧ (1 ≤ c.H ∧ c.H ≤ 1000) ∧ (1 ≤ c.F ∧ c.F ≤ 10) ∧ (c.F ≤ c.P ∧ c.P ≤ 50) ∧ (0 ≤ c.J ∧ c.J ≤ 10) ∧ (8 ≤ c.N ∧ c.N ≤ 64) := by
  unfold Cfg.may at h
  simp only [Bool.and_eq_true, decide_eq_true_eq] at h
  obtain ⟨h0, h1, h2, h3, h4, h5, h6, h7, h8, h9, h10, h11⟩ := h
  exact ⟨h0, h1, h2, ⟨h3.1, by omega, by omega⟩, h4, h5, h6, h7, h8, h9, h10, h11⟩
theorem may_kn {w : World} {c : Cfg} (h : c.may = true) (ok : CfgOk w c) : c.kn ≤ 5 := by
  have := (goodK_zero (may_parts h).2.1).1
  have := ok.2.2.2.2.2.1.len
  omega
set_option maxHeartbeats 1600000 in
theorem shards_any (c : Cfg) (w : World) (h : CfgOk w c) (hm : c.may = true) :
    Calls Tryz.prog 38 #[.agg #[.slice c.wa c.wn c.wc, .slice c.ka c.kn c.kc, .int .i64 c.W, .int .i64 c.C, .int .i64 c.S, .int .i64 c.B, .int .i64 c.L, .int .i64 c.H, .int .i64 c.F, .int .i64 c.P, .int .i64 c.J, .int .i64 c.N]] w fun e w' => e = .returned (.int .i64 ((c.kn + 1 : Nat) : Int)) ∧ Below w.heap.size w w' := by
  have BX := Lib.hid (below_one w (.cells #[.slice c.wa c.wn c.wc, .slice c.ka c.kn c.kc, .int .i64 c.W, .int .i64 c.C, .int .i64 c.S, .int .i64 c.B, .int .i64 c.L, .int .i64 c.H, .int .i64 c.F, .int .i64 c.P, .int .i64 c.J, .int .i64 c.N] 25))
  have IN := Lib.hid (cfgIn_new w c w.heap.size 25 (0, 0) rfl)
  have CM := Lib.hid (may_cfg c true _ (h.below BX.out) hm)
  have hk := may_kn hm h
  have hw1 : IntKind.i64.wrap ((c.kn : Int) + 1) = ((c.kn + 1 : Nat) : Int) := by rw [IntWalk.i64_in _ (by omega)]; omega
  clear h hm
  go_enter Tryz.func38, Tryz.ntmps38
  go_wp2_with fail
  refine CM.out.mono ?_
  rintro e w2 ⟨rfl, hb2⟩
  have B2 := Lib.hid (BX.out.trans (hb2.mono BX.out.size))
  have hI := IN.out.below hb2
  unfold CfgIn at hI
  obtain ⟨i0, i1, -⟩ := hI
  clear hb2 CM
  go_wp2_with fail
  go_ret
  exact ⟨rfl, B2.out⟩
set_option maxHeartbeats 1600000 in
theorem has_any (c : Cfg) (s : Int) (z : Bool) (w : World) (h : CfgOk w c) (hm : c.may = true) (hz : decide (0 ≤ s ∧ s < ((c.kn + 1 : Nat) : Int)) = z) :
    Calls Tryz.prog 41 #[.agg #[.slice c.wa c.wn c.wc, .slice c.ka c.kn c.kc, .int .i64 c.W, .int .i64 c.C, .int .i64 c.S, .int .i64 c.B, .int .i64 c.L, .int .i64 c.H, .int .i64 c.F, .int .i64 c.P, .int .i64 c.J, .int .i64 c.N], .int .i64 s] w fun e w' => e = .returned (.bool z) ∧ Below w.heap.size w w' := by
  have BX := Lib.hid (below_one w (.cells #[.slice c.wa c.wn c.wc, .slice c.ka c.kn c.kc, .int .i64 c.W, .int .i64 c.C, .int .i64 c.S, .int .i64 c.B, .int .i64 c.L, .int .i64 c.H, .int .i64 c.F, .int .i64 c.P, .int .i64 c.J, .int .i64 c.N] 25))
  have IN := Lib.hid (cfgIn_new w c w.heap.size 25 (0, 0) rfl)
  have CM := Lib.hid (shards_any c _ (h.below BX.out) hm)
  have BXX := BX.out
  by_cases h0 : 0 ≤ s
  · have d1 : decide (s ≥ 0) = true := decide_eq_true h0
    have d2 : decide (s < ((c.kn + 1 : Nat) : Int)) = z := by rw [← hz]; simp [h0]
    have d3 : decide (s < (c.kn : Int) + 1) = z := by rw [← d2]; congr 1
    clear h hm hz
    go_enter Tryz.func41, Tryz.ntmps41
    go_wp2_with fail
    refine CM.out.mono ?_
    rintro e w2 ⟨rfl, hb2⟩
    have B2 := Lib.hid (BX.out.trans (hb2.mono BX.out.size))
    clear hb2 CM
    go_wp2_with fail
    go_ret
    exact ⟨rfl, B2.out⟩
  · have d1 : decide (s ≥ 0) = false := decide_eq_false h0
    obtain rfl : z = false := by rw [← hz]; exact decide_eq_false (fun h => h0 h.1)
    clear h hm hz
    go_enter Tryz.func41, Tryz.ntmps41
    go_wp2_with fail
    go_ret
    exact ⟨rfl, BX.out⟩
def GreatC (w : World) (e : Ending) (w' : World) : Prop := ∃ z, e = .returned (.bool z) ∧ Below w.heap.size w w'
set_option maxHeartbeats 1600000 in
theorem greatC_any (c : Cfg) (w : World) (h : CfgOk w c) :
    Calls Tryz.prog 4 #[.agg #[.slice c.wa c.wn c.wc, .slice c.ka c.kn c.kc, .int .i64 c.W, .int .i64 c.C, .int .i64 c.S, .int .i64 c.B, .int .i64 c.L, .int .i64 c.H, .int .i64 c.F, .int .i64 c.P, .int .i64 c.J, .int .i64 c.N]] w (GreatC w) := by
  have BX := Lib.hid (below_one w (.cells #[.slice c.wa c.wn c.wc, .slice c.ka c.kn c.kc, .int .i64 c.W, .int .i64 c.C, .int .i64 c.S, .int .i64 c.B, .int .i64 c.L, .int .i64 c.H, .int .i64 c.F, .int .i64 c.P, .int .i64 c.J, .int .i64 c.N] 25))
  have IN := Lib.hid (cfgIn_new w c w.heap.size 25 (0, 0) rfl)
  have OK := Lib.hid (h.below BX.out)
  clear h
  go_enter Tryz.func4, Tryz.ntmps4
  go_upto_region 2 with fail
  have BE := Lib.hid BX.out
  generalize w.alloc (.cells #[.slice c.wa c.wn c.wc, .slice c.ka c.kn c.kc, .int .i64 c.W, .int .i64 c.C, .int .i64 c.S, .int .i64 c.B, .int .i64 c.L, .int .i64 c.H, .int .i64 c.F, .int .i64 c.P, .int .i64 c.J, .int .i64 c.N] 25) = w1 at *
  obtain ⟨p, hp⟩ : ∃ p, w.heap.size = p := ⟨_, rfl⟩
  rw [hp] at IN
  rw [hp]
  obtain ⟨i0, i1, -⟩ := IN.out
  clear hp
  have hl := OK.out.2.2.2.2.2.1.len
  by_cases h10 : c.kn ≤ 10
  · have d1 : decide (c.kn ≤ 10) = true := decide_eq_true h10
    have d2 : decide ((c.kn : Int) > 10) = false := decide_eq_false (by omega)
    have d3 : decide (10 < c.kn) = false := decide_eq_false (by omega)
    go_loop [3] (fun iv => ∃ i : Nat, i ≤ c.kn ∧ iv = .int .i64 i) (fun iv => c.kn - (intOf iv).toNat)
    case atStart => exact ⟨0, by omega, rfl⟩
    case round =>
      obtain ⟨i, hi, rfl⟩ := hrel
      by_cases hlt : i < c.kn
      · obtain ⟨kb, ko, hka, hc⟩ := OK.out.2.2.2.2.2.1.2 (by omega)
        have e2 := (hc i hlt).2
        obtain ⟨x, hx⟩ : ∃ x, (c.ks.getD i k0).2 = x := ⟨_, rfl⟩
        rw [hx] at e2
        rw [hka] at i1
        clear hc hx
        by_cases hbig : 100 < x.size
        · have c2 : decide (100 < x.size) = true := decide_eq_true hbig
          have c3 : decide ((x.size : Int) > 100) = true := decide_eq_true (by omega)
          go_wp2_with fail
          go_ret
          exact ⟨true, rfl, BE.out⟩
        · have c2 : decide (100 < x.size) = false := decide_eq_false hbig
          have c3 : decide ((x.size : Int) > 100) = false := decide_eq_false (by omega)
          go_wp2_with fail
          go_round
          case rel => exact ⟨i + 1, by omega, by go_num⟩
          case measure => simp [intOf]; omega
      · obtain rfl : i = c.kn := by omega
        go_wp2_with fail
        refine (great_any c.wa c.wn c.wc c.ws _ OK.out.1 OK.out.2.2.2.1 OK.out.2.2.2.2.1).mono ?_
        generalize greatB c.ws = z
        rintro e w2 ⟨rfl, hb2⟩
        have j1 := (hb2.cell (p := ⟨p, 1, none⟩) (lt_of_cell i1)).trans i1
        have B2 := Lib.hid (BE.out.trans (hb2.mono BE.out.size))
        clear hb2
        cases z
        · go_wp2_with fail
          go_ret
          exact ⟨_, rfl, B2.out⟩
        · go_wp2_with fail
          go_ret
          exact ⟨_, rfl, B2.out⟩
  · have d1 : decide (c.kn ≤ 10) = false := decide_eq_false h10
    have d2 : decide ((c.kn : Int) > 10) = true := decide_eq_true (by omega)
    have d3 : decide (10 < c.kn) = true := decide_eq_true (by omega)
    have d4 : decide (0 < c.kn) = true := decide_eq_true (by omega)
    go_loop [3] (fun iv => iv = .int .i64 ((0 : Nat) : Int)) (fun _ => 0)
    case atStart => exact rfl
    case round =>
      obtain rfl := hrel
      go_wp2_with fail
      refine (great_any c.wa c.wn c.wc c.ws _ OK.out.1 OK.out.2.2.2.1 OK.out.2.2.2.2.1).mono ?_
      generalize greatB c.ws = z
      rintro e w2 ⟨rfl, hb2⟩
      have j1 := (hb2.cell (p := ⟨p, 1, none⟩) (lt_of_cell i1)).trans i1
      have B2 := Lib.hid (BE.out.trans (hb2.mono BE.out.size))
      clear hb2
      cases z
      · go_wp2_with fail
        go_ret
        exact ⟨_, rfl, B2.out⟩
      · go_wp2_with fail
        go_ret
        exact ⟨_, rfl, B2.out⟩
end Go.Proofs.YtbbholdadgjelaaGreat
/- two slices of one kind of numbers held against each other -/
namespace Go.Proofs.YtbbholdadgjelaaGreat
open Go.RowKit
set_option linter.unusedVariables false
set_option maxRecDepth 20000
end Go.Proofs.YtbbholdadgjelaaGreat
/- new lists of numbers -/
namespace Go.Proofs.YtbbholdadgjelaaGreat
open Go.RowKit
set_option linter.unusedVariables false
set_option maxRecDepth 20000
def numsV (zs : List Int) : List Value := zs.map (Value.int .i64)
theorem numsV_one (zs : List Int) : ∀ u ∈ numsV zs, u.oneCell' = true := fun u h => by
  unfold numsV at h
  obtain ⟨z, _, rfl⟩ := List.mem_map.1 h
  rfl
theorem holdsI_values {k : IntKind} {w : World} {a : Option Addr} {n : Nat} {zs : List Int} (h : HoldsV w a n (zs.map (Value.int k))) : HoldsI k w a n zs := by
  have hl : zs.length = n := by simpa using h.1
  refine ⟨hl, fun h0 => ?_⟩
  obtain ⟨b, o, ha, hc⟩ := h.2 h0
  exact ⟨b, o, ha, fun i hi => by rw [hc i hi]; simp [List.getD_eq_getElem?_getD, show i < zs.length by omega]⟩
theorem num_info : (Tryz.prog.info? 3).map (fun i => (i.zero, i.size, i.bytes)) = some (some (.int .i64 0), 1, 8) := by kernel_rfl
/-- a call's answer: a new list of numbers -/
def RetZ (w : World) (zs : List Int) (e : Ending) (w' : World) : Prop := ∃ a c, e = .returned (.slice a zs.length c) ∧ w'.ownsRow w.heap.size 3 1 (.slice a zs.length c) zs.length (numsV zs) ∧ Below w.heap.size w w'
theorem holdsZ_own {w : World} {base : Nat} {e : TypeId} {a : Option Addr} {n c : Nat} {zs : List Int} (h : w.ownsRow base e 1 (.slice a n c) n (numsV zs)) : HoldsI .i64 w a n zs := holdsI_values (owns_holds h)
def natsZ (l : List Nat) : List Int := l.map fun s : Nat => (s : Int)
theorem natsZ_len (l : List Nat) : (natsZ l).length = l.length := by simp [natsZ]
theorem natsZ_at (l : List Nat) (i : Nat) : (natsZ l).getD i 0 = ((l.getD i 0 : Nat) : Int) := by
  unfold natsZ
  by_cases h : i < l.length
  · rw [List.getD_eq_getElem?_getD, List.getElem?_map, List.getElem?_eq_getElem h, List.getD_eq_getElem?_getD, List.getElem?_eq_getElem h]; rfl
  · rw [List.getD_eq_getElem?_getD, List.getElem?_eq_none (by simp; omega), List.getD_eq_getElem?_getD, List.getElem?_eq_none (by omega)]; rfl
end Go.Proofs.YtbbholdadgjelaaGreat
/- place: Copies, Contains, Keeps -/
namespace Go.Proofs.YtbbholdadgjelaaGreat
open Go.RowKit
set_option linter.unusedVariables false
set_option maxRecDepth 20000
namespace Pl
def cop (W C s : Nat) : List Int := (List.range C).map fun j => ((1 + (s + j) % W : Nat) : Int)
def keep (W C S : Nat) (x : Int) : List Nat := (List.range S).filter fun s => decide (x ∈ cop W C s)
theorem cop_len (W C s : Nat) : (cop W C s).length = C := by simp [cop]
theorem cop_snoc (W C s : Nat) : cop W (C + 1) s = cop W C s ++ [((1 + (s + C) % W : Nat) : Int)] := by simp [cop, List.range_succ]
theorem keep_snoc (W C S : Nat) (x : Int) : keep W C (S + 1) x = keep W C S x ++ (if x ∈ cop W C S then [S] else []) := by
  unfold keep
  rw [List.range_succ, List.filter_append]
  by_cases h : x ∈ cop W C S <;> simp [h]
theorem keep_len (W C S : Nat) (x : Int) : (keep W C S x).length ≤ S := by
  unfold keep
  exact Nat.le_trans (List.length_filter_le _ _) (by simp)
end Pl
set_option maxHeartbeats 3200000 in
theorem copies_in (c : Cfg) (s : Nat) (W C : Nat) (w : World) (h : CfgOk w c) (hm : c.may = true) (hs : s < c.kn + 1) (hW : c.W = (W : Int)) (hC : c.C = (C : Int)) :
    Calls Tryz.prog 40 #[.agg #[.slice c.wa c.wn c.wc, .slice c.ka c.kn c.kc, .int .i64 c.W, .int .i64 c.C, .int .i64 c.S, .int .i64 c.B, .int .i64 c.L, .int .i64 c.H, .int .i64 c.F, .int .i64 c.P, .int .i64 c.J, .int .i64 c.N], .int .i64 (s : Int)] w (RetZ w (Pl.cop W C s)) := by
  obtain ⟨i0, hi, hz0, hz1, hz2⟩ := info_parts num_info
  have BX := Lib.hid (below_one w (.cells #[.slice c.wa c.wn c.wc, .slice c.ka c.kn c.kc, .int .i64 c.W, .int .i64 c.C, .int .i64 c.S, .int .i64 c.B, .int .i64 c.L, .int .i64 c.H, .int .i64 c.F, .int .i64 c.P, .int .i64 c.J, .int .i64 c.N] 25))
  have IN := Lib.hid (cfgIn_new w c w.heap.size 25 (0, 0) rfl)
  have CM := Lib.hid (has_any c s true _ (h.below BX.out) hm (decide_eq_true ⟨by omega, by omega⟩))
  have hk := may_kn hm h
  obtain ⟨-, -, hw, hc, -⟩ := may_parts hm
  rw [hW] at hw
  rw [hC, hW] at hc
  have H5 := Lib.hid (show W ≤ 5 ∧ C ≤ 3 from ⟨by omega, by omega⟩)
  have hW0 : ((W : Int) == 0) = false := by simp; omega
  have hW1 : 1 ≤ W := by omega
  have hC3 : C ≤ 3 := by omega
  have hs6 : s ≤ 5 := by omega
  have HW := Lib.hid hW; have HC := Lib.hid hC
  clear h hm hw hc hW hC
  go_enter Tryz.func40, Tryz.ntmps40
  go_wp2_with fail
  refine CM.out.mono ?_
  rintro e w2 ⟨rfl, hb2⟩
  have B2 := Lib.hid (BX.out.trans (hb2.mono BX.out.size))
  have I2 := Lib.hid (IN.out.below hb2)
  clear hb2 CM
  have hI := I2.out
  unfold CfgIn at hI
  obtain ⟨-, -, -, i3, -⟩ := hI
  rw [HC.out] at i3
  go_wp2_with fail
  go_loopw [5, 13] (fun ov iv wr => ∃ (j : Nat) (av : Option Addr) (cv : Nat), j ≤ C ∧ iv = .int .i64 j ∧ ov = .slice av j cv ∧ Hid (wr.ownsRow (w.heap.size + 1) 3 1 (.slice av j cv) j (numsV (Pl.cop W j s))) ∧ Hid (Below w2.heap.size w2 wr ∨ True) ∧ Hid (Below w.heap.size w wr ∧ CfgIn wr w.heap.size c)) (fun _ iv _ => C - (intOf iv).toNat)
  case atStart => exact ⟨0, none, 0, by omega, rfl, rfl, Lib.hid (World.ownsRow_nil _ _ _ _), Lib.hid (Or.inr trivial), Lib.hid ⟨B2.out, I2.out⟩⟩
  case round =>
    obtain ⟨j, av, cv, hj, rfl, rfl, hO, -, hB⟩ := hrel
    by_cases hlt : j < C
    · have hI := hB.out.2
      unfold CfgIn at hI
      obtain ⟨-, -, k2, -⟩ := hI
      rw [HW.out] at k2
      have d1 : decide ((j : Int) < (C : Int)) = true := decide_eq_true (by omega)
      obtain ⟨z, hz⟩ : ∃ z, (s + j) % W = z := ⟨_, rfl⟩
      have hzl : z < W := by rw [← hz]; exact Nat.mod_lt _ (by omega)
      have HZ := Lib.hid (show Pl.cop W (j + 1) s = Pl.cop W j s ++ [1 + (z : Int)] from by rw [Pl.cop_snoc, hz]; simp)
      have r1 : IntKind.i64.wrap ((s : Int) + (j : Int)) = (s : Int) + (j : Int) := by rw [IntWalk.i64_in _ (by omega)]
      have r2 : ((s : Int) + (j : Int)) % (W : Int) = (z : Int) := by rw [← hz]; simp
      have r3 : IntKind.i64.wrap (1 + (z : Int)) = 1 + (z : Int) := by rw [IntWalk.i64_in _ (by have := H5.out; omega)]
      have IH := Lib.hid hB.out.2
      clear hz
      go_wp2_with (at_builtin; refine wpList_append_any rfl (.tmp 16) (.tmp 24) 63 rfl (w.heap.size + 1) 3 i0 _ 1 8 Tryz.underlying63 hi hz0 hz1 hz2 rfl (by decide) _ j _ rfl (hO.out.alloc _) _ 1 1 [.int .i64 (1 + (z : Int))] rfl (some_none _) rfl (one_new _ _ _ _) (by simp [Value.oneCell']) (by unfold maxLen; omega) (by omega) (by have := lt_of_cell IH.out.1; simp; omega) ?_; intro a3 c3 w3 hown3 hb3 hnil3)
      have O3 := Lib.hid (show w3.ownsRow (w.heap.size + 1) 3 1 (.slice a3 (j + 1) c3) (j + 1) (numsV (Pl.cop W (j + 1) s)) from by rw [HZ.out]; unfold numsV at hown3 ⊢; rw [List.map_append]; exact hown3)
      have B3 := Lib.hid (show Below w.heap.size w w3 ∧ CfgIn w3 w.heap.size c from by
        have b1 : Below (w.heap.size + 1) wr w3 := ((Below.refl (w.heap.size + 1) wr).alloc (by have := lt_of_cell IH.out.1; omega) _).trans hb3
        exact ⟨hB.out.1.trans (b1.mono (by omega)), IH.out.of fun i => b1.cell (p := ⟨w.heap.size, i, none⟩) (by show w.heap.size < w.heap.size + 1; omega)⟩)
      clear hown3 hb3 hnil3 k2 IH
      go_roundw
      case rel => exact ⟨j + 1, a3, c3, by omega, by go_num, rfl, O3, Lib.hid (Or.inr trivial), B3⟩
      case measure => simp [intOf] <;> omega
    · obtain rfl : j = C := by omega
      have d1 : decide ((j : Int) < (j : Int)) = false := decide_eq_false (by omega)
      go_wp2_with fail
      go_ret
      refine ⟨av, cv, by rw [Pl.cop_len]; rfl, ?_, hB.out.1⟩
      rw [Pl.cop_len]
      have := hO.out
      exact ⟨this.1, this.2.imp id (fun ⟨g, cap, cur, hv, hge, r⟩ => ⟨g, cap, cur, hv, by omega, r⟩)⟩
theorem copies_out (c : Cfg) (s : Int) (w : World) (h : CfgOk w c) (hm : c.may = true) (hs : ¬ (0 ≤ s ∧ s < ((c.kn + 1 : Nat) : Int))) :
    Calls Tryz.prog 40 #[.agg #[.slice c.wa c.wn c.wc, .slice c.ka c.kn c.kc, .int .i64 c.W, .int .i64 c.C, .int .i64 c.S, .int .i64 c.B, .int .i64 c.L, .int .i64 c.H, .int .i64 c.F, .int .i64 c.P, .int .i64 c.J, .int .i64 c.N], .int .i64 s] w (RetZ w []) := by
  have BX := Lib.hid (below_one w (.cells #[.slice c.wa c.wn c.wc, .slice c.ka c.kn c.kc, .int .i64 c.W, .int .i64 c.C, .int .i64 c.S, .int .i64 c.B, .int .i64 c.L, .int .i64 c.H, .int .i64 c.F, .int .i64 c.P, .int .i64 c.J, .int .i64 c.N] 25))
  have CM := Lib.hid (has_any c s false _ (h.below BX.out) hm (decide_eq_false hs))
  clear h hm hs
  go_enter Tryz.func40, Tryz.ntmps40
  go_wp2_with fail
  refine CM.out.mono ?_
  rintro e w2 ⟨rfl, hb2⟩
  have B2 := Lib.hid (BX.out.trans (hb2.mono BX.out.size))
  clear hb2 CM
  go_wp2_with fail
  go_ret
  exact ⟨none, 0, rfl, World.ownsRow_nil _ _ _ _, B2.out⟩
theorem pindex_any (a : Option Addr) (n cap : Nat) (zs : List Int) (x : Int) (w : World) (h : HoldsI .i64 w a n zs) (hn : n ≤ 1000000) :
    Calls Tryz.prog 55 #[.slice a n cap, .int .i64 x] w fun e w' => e = .returned (.int .i64 (if x ∈ zs then (zs.idxOf x : Int) else -1)) ∧ w = w' := by
  have H := Lib.hid h
  have hl := h.1
  obtain ⟨R, hR⟩ : ∃ R : Int, (if x ∈ zs then (zs.idxOf x : Int) else -1) = R := ⟨_, rfl⟩
  rw [hR]
  have RY := Lib.hid (show ∀ j, j < n → zs.getD j 0 = x → (∀ k, k < j → zs.getD k 0 ≠ x) → R = (j : Int) from fun j hj he hno => by
    have hjl : j < zs.length := by omega
    have e0 : zs[j] = x := by rw [← he, List.getD_eq_getElem?_getD, List.getElem?_eq_getElem hjl]; rfl
    have hmem : x ∈ zs := by rw [← e0]; exact List.getElem_mem _
    rw [← hR, if_pos hmem]
    have hlt := List.idxOf_lt_length_of_mem hmem
    have hat := List.getElem_idxOf hlt
    rcases Nat.lt_trichotomy (zs.idxOf x) j with hh | hh | hh
    · exact absurd (by rw [List.getD_eq_getElem?_getD, List.getElem?_eq_getElem hlt]; exact hat) (hno _ hh)
    · rw [hh]
    · have h2 := List.not_of_lt_findIdx (p := (· == x)) (xs := zs) (i := j) hh
      rw [e0] at h2
      simp at h2)
  have RN := Lib.hid (show (∀ k, k < n → zs.getD k 0 ≠ x) → R = -1 from fun hno => by
    rw [← hR, if_neg]
    intro hmem
    obtain ⟨k, hk, he⟩ := List.getElem_of_mem hmem
    exact hno k (by omega) (by rw [List.getD_eq_getElem?_getD, List.getElem?_eq_getElem hk]; exact he))
  clear h hR
  go_enter Tryz.func55, Tryz.ntmps55
  go_wp2_with fail
  go_loop [8] (fun iv => ∃ j : Nat, j ≤ n ∧ iv = .int .i64 j ∧ Hid (∀ k, k < j → zs.getD k 0 ≠ x)) (fun iv => n - (intOf iv).toNat)
  case atStart => exact ⟨0, by omega, rfl, Lib.hid (fun k hk => by omega)⟩
  case round =>
    obtain ⟨j, hj, rfl, hno⟩ := hrel
    by_cases hlt : j < n
    · obtain ⟨b, o, rfl, hc⟩ := H.out.at (by omega)
      have e0 := hc j hlt
      have hry := RY.out j hlt
      obtain ⟨y, hy⟩ : ∃ y, zs.getD j 0 = y := ⟨_, rfl⟩
      have HY := Lib.hid hy
      rw [hy] at e0 hry
      clear hc hy
      by_cases he : y = x
      · have d1 : (x == y) = true := by simp [he]
        have hres := hry he hno.out
        clear hry he
        go_wp2_with fail
        go_ret
        exact ⟨rfl, rfl⟩
      · have d1 : (x == y) = false := by simp; exact fun h => he h.symm
        have NX := Lib.hid (show ∀ k, k < j + 1 → zs.getD k 0 ≠ x from fun k hk => by
          rcases Nat.lt_succ_iff_lt_or_eq.1 hk with e | e
          · exact hno.out k e
          · subst e; rw [HY.out]; exact he)
        clear hry he
        go_wp2_with fail
        go_round
        case rel => exact ⟨j + 1, by omega, by go_num, NX⟩
        case measure => simp [intOf]; omega
    · obtain rfl : j = n := by omega
      have hres := RN.out hno.out
      go_wp2_with fail
      go_ret
      exact ⟨rfl, rfl⟩
theorem contains_any (a : Option Addr) (n cap : Nat) (zs : List Int) (x : Int) (z : Bool) (w : World) (h : HoldsI .i64 w a n zs) (hn : n ≤ 1000000) (hz : decide (x ∈ zs) = z) :
    Calls Tryz.prog 39 #[.slice a n cap, .int .i64 x] w fun e w' => e = .returned (.bool z) ∧ w = w' := by
  have CI := pindex_any a n cap zs x w h hn
  obtain ⟨R, hR⟩ : ∃ R : Int, (if x ∈ zs then (zs.idxOf x : Int) else -1) = R := ⟨_, rfl⟩
  rw [hR] at CI
  have d1 : decide (R ≥ 0) = z := by
    rw [← hz, ← hR]
    by_cases hm : x ∈ zs
    · rw [if_pos hm, decide_eq_true hm]; exact decide_eq_true (by omega)
    · rw [if_neg hm, decide_eq_false hm]; rfl
  have C := Lib.hid CI
  clear CI hR hz h
  go_enter Tryz.func39, Tryz.ntmps39
  go_wp2_with fail
  refine C.out.mono ?_
  rintro e w' ⟨rfl, rfl⟩
  go_wp2_with fail
  go_ret
  exact ⟨rfl, rfl⟩
end Go.Proofs.YtbbholdadgjelaaGreat
/- place: Keeps, Words -/
namespace Go.Proofs.YtbbholdadgjelaaGreat
open Go.RowKit
set_option linter.unusedVariables false
set_option maxRecDepth 20000
set_option maxHeartbeats 6400000 in
theorem keeps_any (c : Cfg) (x : Int) (W C : Nat) (w : World) (h : CfgOk w c) (hm : c.may = true) (hW : c.W = (W : Int)) (hC : c.C = (C : Int)) :
    Calls Tryz.prog 24 #[.agg #[.slice c.wa c.wn c.wc, .slice c.ka c.kn c.kc, .int .i64 c.W, .int .i64 c.C, .int .i64 c.S, .int .i64 c.B, .int .i64 c.L, .int .i64 c.H, .int .i64 c.F, .int .i64 c.P, .int .i64 c.J, .int .i64 c.N], .int .i64 x] w (RetZ w (natsZ (Pl.keep W C (c.kn + 1) x))) := by
  obtain ⟨i0, hi, hz0, hz1, hz2⟩ := info_parts num_info
  have BX := Lib.hid (below_one w (.cells #[.slice c.wa c.wn c.wc, .slice c.ka c.kn c.kc, .int .i64 c.W, .int .i64 c.C, .int .i64 c.S, .int .i64 c.B, .int .i64 c.L, .int .i64 c.H, .int .i64 c.F, .int .i64 c.P, .int .i64 c.J, .int .i64 c.N] 25))
  have IN := Lib.hid (cfgIn_new w c w.heap.size 25 (0, 0) rfl)
  have OK := Lib.hid h
  have CM := Lib.hid (shards_any c _ (h.below BX.out) hm)
  have hk := may_kn hm h
  have HW := Lib.hid hW; have HC := Lib.hid hC; have HM := Lib.hid hm
  have HC3 := Lib.hid (show C ≤ 3 from by have := (may_parts hm).2.2.2.1; omega)
  obtain ⟨n, hn⟩ : ∃ n, c.kn + 1 = n := ⟨_, rfl⟩
  have HN := Lib.hid hn
  rw [hn] at CM
  rw [hn]
  have hn6 : n ≤ 6 := by omega
  clear h hm hW hC hn hk
  go_enter Tryz.func24, Tryz.ntmps24
  go_wp2_with fail
  refine CM.out.mono ?_
  rintro e w2 ⟨rfl, hb2⟩
  have B2 := Lib.hid (BX.out.trans (hb2.mono BX.out.size))
  have I2 := Lib.hid (IN.out.below hb2)
  clear hb2 CM
  go_wp2_with fail
  go_loopw [5, 9] (fun ov iv wr => ∃ (j : Nat) (K : List Nat) (av : Option Addr) (cv : Nat), j ≤ n ∧ K.length ≤ j ∧ iv = .int .i64 j ∧ ov = .slice av K.length cv ∧ Hid (K = Pl.keep W C j x) ∧ Hid (wr.ownsRow (w.heap.size + 1) 3 1 (.slice av K.length cv) K.length (numsV (natsZ K))) ∧ Hid (Below w.heap.size w wr ∧ CfgIn wr w.heap.size c)) (fun _ iv _ => n - (intOf iv).toNat)
  case atStart => exact ⟨0, [], none, 0, by omega, by simp, rfl, rfl, Lib.hid rfl, Lib.hid (World.ownsRow_nil _ _ _ _), Lib.hid ⟨B2.out, I2.out⟩⟩
  case round =>
    obtain ⟨j, K, av, cv, hj, hKl, rfl, rfl, hK, hO, hB⟩ := hrel
    by_cases hlt : j < n
    · have hI := hB.out.2
      unfold CfgIn at hI
      obtain ⟨i0', i1, i2, i3, i4, i5, i6, i7, i8, i9, i10, i11⟩ := hI
      have d1 : decide ((j : Int) < (n : Int)) = true := decide_eq_true (by omega)
      have CC := Lib.hid (copies_in c j W C wr (OK.out.below hB.out.1) HM.out (by have := HN.out; omega) HW.out HC.out)
      obtain ⟨L, hL⟩ : ∃ L, Pl.cop W C j = L := ⟨_, rfl⟩
      have LL := Lib.hid (show L.length ≤ 3 from by rw [← hL, Pl.cop_len]; exact HC3.out)
      obtain ⟨z, hz⟩ : ∃ z, decide (x ∈ L) = z := ⟨_, rfl⟩
      have HZ := Lib.hid hz
      have hks := Pl.keep_snoc W C j x
      rw [hL] at CC hks
      have KS := Lib.hid hks
      clear hL hz hks
      go_wp2_with fail
      refine CC.out.mono ?_
      rintro e w3 ⟨la, lc, rfl, hown, hb3⟩
      have CT := Lib.hid (contains_any la L.length lc L x z w3 (holdsZ_own hown) (by have := LL.out; omega) HZ.out)
      have O3 := Lib.hid (owns_below hO.out hb3)
      have B3 := Lib.hid (show Below w.heap.size w w3 ∧ CfgIn w3 w.heap.size c from ⟨hB.out.1.trans (hb3.mono hB.out.1.size), hB.out.2.below hb3⟩)
      clear hown hb3 CC i0' i1 i2 i3 i4 i5 i6 i7 i8 i9 i10 i11
      go_wp2_with fail
      refine CT.out.mono ?_
      rintro e w' ⟨rfl, rfl⟩
      clear CT
      cases z
      · have K2 := Lib.hid (show K = Pl.keep W C (j + 1) x from by rw [KS.out, if_neg (of_decide_eq_false HZ.out), List.append_nil]; exact hK.out)
        go_wp2_with fail
        go_roundw
        case rel => exact ⟨j + 1, K, av, cv, by omega, by omega, by go_num, rfl, K2, O3, B3⟩
        case measure => simp [intOf] <;> omega
      · have K2 := Lib.hid (show K ++ [j] = Pl.keep W C (j + 1) x from by rw [KS.out, if_pos (of_decide_eq_true HZ.out), ← hK.out])
        go_wp2_with (at_builtin; refine wpList_append_any rfl (.tmp 17) (.tmp 19) 63 rfl (w.heap.size + 1) 3 i0 _ 1 8 Tryz.underlying63 hi hz0 hz1 hz2 rfl (by decide) _ K.length _ rfl (O3.out.alloc _) _ 1 1 [.int .i64 (j : Int)] rfl (some_none _) rfl (one_new _ _ _ _) (by simp [Value.oneCell']) (by unfold maxLen; omega) (by omega) (by have := lt_of_cell B3.out.2.1; simp; omega) ?_; intro a5 c5 w5 hown5 hb5 hnil5)
        have O5 := Lib.hid (show w5.ownsRow (w.heap.size + 1) 3 1 (.slice a5 (K ++ [j]).length c5) (K ++ [j]).length (numsV (natsZ (K ++ [j]))) from by rw [List.length_append]; unfold numsV natsZ at hown5 ⊢; rw [List.map_append, List.map_append]; exact hown5)
        have B5 := Lib.hid (show Below w.heap.size w w5 ∧ CfgIn w5 w.heap.size c from by
          have b1 : Below (w.heap.size + 1) w3 w5 := ((Below.refl (w.heap.size + 1) w3).alloc (by have := lt_of_cell B3.out.2.1; omega) _).trans hb5
          exact ⟨B3.out.1.trans (b1.mono (by omega)), B3.out.2.of fun i => b1.cell (p := ⟨w.heap.size, i, none⟩) (by show w.heap.size < w.heap.size + 1; omega)⟩)
        clear hown5 hb5 hnil5
        go_roundw
        case rel => exact ⟨j + 1, K ++ [j], a5, c5, by omega, by simp; omega, by go_num, by simp, K2, O5, B5⟩
        case measure => simp [intOf] <;> omega
    · obtain rfl : j = n := by omega
      have d1 : decide ((j : Int) < (j : Int)) = false := decide_eq_false (by omega)
      go_wp2_with fail
      go_ret
      refine ⟨av, cv, by rw [← hK.out, natsZ_len]; rfl, ?_, hB.out.1⟩
      rw [← hK.out, natsZ_len]
      have := hO.out
      exact ⟨this.1, this.2.imp id (fun ⟨g, cap, cur, hv, hge, r⟩ => ⟨g, cap, cur, hv, by omega, r⟩)⟩
theorem pwords_any (c : Cfg) (s k : Nat) (zs : List Tx) (w : World) (h : CfgOk w c) (hm : c.may = true) (hs : s < c.kn + 1) (hz : sliceS c.ks c.ws s = zs) (hk : zs.length = k) :
    Calls Tryz.prog 43 #[.agg #[.slice c.wa c.wn c.wc, .slice c.ka c.kn c.kc, .int .i64 c.W, .int .i64 c.C, .int .i64 c.S, .int .i64 c.B, .int .i64 c.L, .int .i64 c.H, .int .i64 c.F, .int .i64 c.P, .int .i64 c.J, .int .i64 c.N], .int .i64 (s : Int)] w fun e w' => ∃ a' c', e = .returned (.slice a' k c') ∧ LstP w' a' k c' zs ∧ Below w.heap.size w w' := by
  have BX := Lib.hid (below_one w (.cells #[.slice c.wa c.wn c.wc, .slice c.ka c.kn c.kc, .int .i64 c.W, .int .i64 c.C, .int .i64 c.S, .int .i64 c.B, .int .i64 c.L, .int .i64 c.H, .int .i64 c.F, .int .i64 c.P, .int .i64 c.J, .int .i64 c.N] 25))
  have IN := Lib.hid (cfgIn_new w c w.heap.size 25 (0, 0) rfl)
  have ok := h.below BX.out
  have hkn := may_kn hm h
  have hwn : c.wn ≤ 60 := by
    have := (goodV_zero (may_parts hm).1).1
    have := h.1.len
    omega
  have CS := Lib.hid (sliceP_lst c.ka c.kn c.kc c.ks c.wa c.wn c.wc c.ws zs s k _ ok.2.2.2.2.2.1 ok.1 (by omega) (by omega) (by omega) ok.2.2.2.2.1 hz hk)
  clear ok h hm hs hz hk
  go_enter Tryz.func43, Tryz.ntmps43
  go_wp2_with fail
  refine CS.out.mono ?_
  rintro e w2 ⟨a', c', rfl, hl, hb⟩
  have B2 := Lib.hid (BX.out.trans (hb.mono BX.out.size))
  have L2 := Lib.hid hl
  clear hb hl
  go_wp2_with fail
  go_ret
  exact ⟨a', c', rfl, L2.out, B2.out⟩
end Go.Proofs.YtbbholdadgjelaaGreat
/- place: awake -/
namespace Go.Proofs.YtbbholdadgjelaaGreat
open Go.RowKit
set_option linter.unusedVariables false
set_option maxRecDepth 20000
abbrev plE : Tx := { data := #[] }
abbrev cfg0 (B : Nat) : Cfg := ⟨none, 0, 0, some ⟨B, 0, none⟩, 2, 2, 3, 2, 1, 2, 5, 3, 1, 4, 0, 8, [], [(2, plE), (4, plE)]⟩
abbrev cfgE : Cfg := ⟨none, 0, 0, none, 0, 0, 0, 0, 0, 0, 0, 0, 0, 0, 0, 0, [], []⟩
theorem plE_len : lenS plE = 0 := by decide
theorem good_nilV : goodV [] = 0 := by decide
theorem good_keys0 : goodK [(2, plE), (4, plE)] = 0 := goodK_of (by decide) (by
  intro k hk
  simp at hk
  rcases hk with rfl | rfl <;> simp [mayK, plE_len]) (by simp [SortedK, ordK_lt])
theorem good_nilK : goodK [] = 0 := goodK_of (by decide) (by simp) (by simp [SortedK])
theorem may_cfg0 (B : Nat) : (cfg0 B).may = true := by
  simp [Cfg.may, good_nilV, good_keys0]
theorem may_cfgE : cfgE.may = false := by
  simp [Cfg.may]
theorem ok_cfgE (w : World) : CfgOk w cfgE := ⟨HoldsT.nil _ _, fun _ => ⟨rfl, rfl⟩, Nat.le_refl _, by simp, by simp, ⟨rfl, fun h => by simp at h⟩, by simp, by simp⟩
theorem ok_cfg0 (w : World) : CfgOk (w.alloc (.cells #[.int .i64 2, .string { data := #[] }, .int .i64 4, .string { data := #[] }] 57)) (cfg0 w.heap.size) := by
  refine ⟨HoldsT.nil _ _, fun _ => ⟨rfl, rfl⟩, Nat.le_refl _, by simp, by simp, ⟨rfl, fun _ => ⟨w.heap.size, 0, rfl, fun i hi => ?_⟩⟩, by simp, ?_⟩
  · have hc : i = 0 ∨ i = 1 := by
      have : i < 2 := hi
      omega
    rcases hc with rfl | rfl <;> simp
  · intro k hk
    simp at hk
    rcases hk with rfl | rfl <;> (unfold KeyOk i64okK; decide)
theorem two_ints (w : World) (x y : Int) (e : TypeId) (fr : Nat × Nat) : HoldsI .i64 (w.alloc (.cells #[.int .i64 x, .int .i64 y] e fr)) (some ⟨w.heap.size, 0, none⟩) 2 [x, y] := by
  refine ⟨rfl, fun _ => ⟨w.heap.size, 0, rfl, fun i hi => ?_⟩⟩
  have hc : i = 0 ∨ i = 1 := by omega
  rcases hc with rfl | rfl <;> (rw [Nat.zero_add, World.cell?_alloc_mark]; rfl)
end Go.Proofs.YtbbholdadgjelaaGreat
/- pack: a node as it is read -/
namespace Go.Proofs.YtbbholdadgjelaaGreat
open Go.RowKit
set_option linter.unusedVariables false
set_option maxRecDepth 20000
/-- an edge as it is read: its label, where it leads -/
abbrev PE := Nat × Nat
def peV : List PE → List Value
  | [] => []
  | x :: l => .int .i64 (x.1 : Int) :: .int .i64 (x.2 : Int) :: peV l
theorem peV_len : ∀ l : List PE, (peV l).length = l.length * 2
  | [] => rfl
  | x :: l => by simp [peV, peV_len l]; omega
theorem peV_app : ∀ k l : List PE, peV (k ++ l) = peV k ++ peV l
  | [], l => rfl
  | x :: k, l => by simp [peV, peV_app k l]
theorem peV_one : ∀ (l : List PE), ∀ u ∈ peV l, u.oneCell' = true
  | [], u, h => by simp [peV] at h
  | x :: l, u, h => by
    simp only [peV, List.mem_cons] at h
    rcases h with h | h | h
    · subst h; rfl
    · subst h; rfl
    · exact peV_one l u h
theorem peV_at : ∀ (l : List PE) (i : Nat), i < l.length → (peV l)[i * 2]? = some (.int .i64 ((l.getD i (0, 0)).1 : Int)) ∧ (peV l)[i * 2 + 1]? = some (.int .i64 ((l.getD i (0, 0)).2 : Int))
  | [], i, h => by simp at h
  | x :: l, 0, _ => by simp [peV]
  | x :: l, i + 1, h => by
    have ih := peV_at l i (by simpa using h)
    have e1 : (i + 1) * 2 = i * 2 + 1 + 1 := by omega
    rw [e1]
    simpa [peV] using ih
/-- a node as it is read -/
structure PN where
  fin : Bool
  es : List PE
/-- so many edges, read on from here: what was read, how far, whether something was missing -/
def rdE (bs : List Nat) (n : Nat) : Nat → Nat → Bool → List PE × Nat × Bool
  | 0, at_, bad => ([], at_, bad)
  | k + 1, at_, bad =>
    let a1 := atR n at_ 4 bad
    let b1 := !okR n at_ 4 bad
    let a2 := atR n a1 2 b1
    let b2 := !okR n a1 2 b1
    let x : PE := (numR bs n at_ 4 bad, numR bs n a1 2 b1)
    if b2 then ([x], a2, true) else (x :: (rdE bs n k a2 false).1, (rdE bs n k a2 false).2)
def rdN (bs : List Nat) (n at_ : Nat) (bad : Bool) : PN × Nat × Bool :=
  let a1 := atR n at_ 1 bad
  let b1 := !okR n at_ 1 bad
  let a2 := atR n a1 2 b1
  let b2 := !okR n a1 2 b1
  let r := rdE bs n (numR bs n a1 2 b1) a2 b2
  (⟨decide (numR bs n at_ 1 bad = 1), r.1⟩, r.2)
theorem atR_le {n at_ s : Nat} {bad : Bool} (h : at_ ≤ n) : atR n at_ s bad ≤ n := by
  unfold atR
  split
  · rename_i h1
    unfold okR at h1
    simp only [Bool.and_eq_true, decide_eq_true_eq] at h1
    exact h1.2
  · exact h
theorem okR_bad {n at_ s : Nat} : okR n at_ s true = false := rfl
end Go.Proofs.YtbbholdadgjelaaGreat
/- pack: readNode -/
namespace Go.Proofs.YtbbholdadgjelaaGreat
open Go.RowKit
set_option linter.unusedVariables false
set_option maxRecDepth 20000
end Go.Proofs.YtbbholdadgjelaaGreat
/- pack: readNode, its walk -/
namespace Go.Proofs.YtbbholdadgjelaaGreat
open Go.RowKit
set_option linter.unusedVariables false
set_option maxRecDepth 20000
theorem rdE_succ (bs : List Nat) (n k at_ : Nat) (bad : Bool) : rdE bs n (k + 1) at_ bad = (let a1 := atR n at_ 4 bad; let b1 := !okR n at_ 4 bad; let a2 := atR n a1 2 b1; let b2 := !okR n a1 2 b1; let x : PE := (numR bs n at_ 4 bad, numR bs n a1 2 b1); if b2 then ([x], a2, true) else (x :: (rdE bs n k a2 false).1, (rdE bs n k a2 false).2)) := rfl
end Go.Proofs.YtbbholdadgjelaaGreat
/- A string's bytes; a string appended to a slice of bytes. -/
namespace Go.Proofs.YtbbholdadgjelaaGreat
open Go.ChangeShapes Go.WideShapes Go.ChangeAt Go.RowKit
set_option linter.unusedVariables false
set_option maxRecDepth 20000
def strB (s : ByteArray) : List Nat := s.data.toList.map UInt8.toNat
theorem strB_length (s : ByteArray) : (strB s).length = s.size := by rw [strB, List.length_map, Array.length_toList]; rfl
theorem strB_lt (s : ByteArray) : ∀ b ∈ strB s, b < 256 := by
  intro b hb
  obtain ⟨x, _, rfl⟩ := List.mem_map.1 hb
  exact x.toNat_lt
theorem strCells_eq (s : ByteArray) : Lib.strCells s = bytesV (strB s) := by
  simp [Lib.strCells, bytesV, strB, List.map_map]
theorem below_bytesWorld (w : World) (e : TypeId) (s : ByteArray) : Below w.heap.size w (Lib.bytesWorld w e s) :=
  ⟨rfl, rfl, rfl, by rw [Lib.bytesWorld_size]; omega, fun k hk => Lib.bytesWorld_at_old w e s k hk⟩
theorem strB_getD (s : ByteArray) (j : Nat) : (strB s).getD j 0 = (s.data.toList.getD j 0).toNat := by
  simp only [strB, List.getD_eq_getElem?_getD, List.getElem?_map]
  cases s.data.toList[j]? <;> rfl
theorem holdsB_bytesWorld (w : World) (e : TypeId) (s : ByteArray) : HoldsB (Lib.bytesWorld w e s) (some ⟨w.heap.size, 0, none⟩) s.size (strB s) :=
  ⟨⟨by rw [List.length_map, strB_length], fun _ => ⟨_, _, rfl, fun i hi => by rw [Nat.zero_add, Lib.bytesWorld_cell w e s i hi, getD_map_cast, strB_getD]⟩⟩, strB_lt s⟩
theorem wpList_append_str {P : Program} {w : World} {ops : Array Oper} {rest : List Oper} {o : Oper} {a : Act} {Q : Exit → Act → World → Prop} (hgd : o.guard = none) (s x : Operand) (t u : TypeId)
    (ho : o.op = .call { callee := .builtin .append, args := #[s, x], argTypes := #[t, u] })
    (base : Nat) (e : TypeId) (i : TypeInfo) (ht : P.underlying t = some (.slice e)) (hu : P.underlying u = some .string) (hi : P.info? e = some i) (hz : i.zero = some (.int .u8 0)) (hsize : i.size = 1) (hby : i.bytes = 1)
    (v : Value) (n : Nat) (bs : List Nat) (hs : a.eval s = v) (hown : w.ownsRow base e 1 v n (bytesV bs))
    (str : ByteArray) (hx : a.eval x = .string str)
    (h63 : n + str.size ≤ maxLen) (hbytes : n + str.size ≤ 140737488355328) (hbase : base ≤ w.heap.size)
    (h : ∀ a' c' w', w'.ownsRow base e 1 (.slice a' (n + str.size) c') (n + str.size) (bytesV (bs ++ strB str)) → Below base w w' → wpList P ops Q rest (a.put o.dst (.slice a' (n + str.size) c')) w') : wpList P ops Q (o :: rest) a w := by
  refine Lib.wpList_append_own_string w hgd s x t u ho base e i ht hu hi hz hsize hby v n (bytesV bs) hs hown str hx h63 hbytes hbase fun v' w' h2 h3 _ => ?_
  have hb' : Below base w w' := (Below.refl base w).grown h3 hbase fun k hk => (hown.lt k hk).1
  rw [strCells_eq, bytesV_append] at h2
  rcases Joins.ownsRow_forms h2 with ⟨rfl, h0⟩ | ⟨g, cap, rfl⟩
  · have := h none 0 w' (by rw [h0] at h2 ⊢; exact h2) hb'
    rw [h0] at this
    exact this
  · exact h _ _ w' h2 hb'
end Go.Proofs.YtbbholdadgjelaaGreat
/- contracts of code: a text read -/
namespace Go.Proofs.YtbbholdadgjelaaGreat
open Go.RowKit
set_option linter.unusedVariables false
set_option maxRecDepth 20000
/-- the text of bytes -/
def strN (bs : List Nat) : ByteArray := strOfNums (bs.map fun b : Nat => (b : Int))
theorem strN_nil : strN [] = ⟨#[]⟩ := rfl
theorem run_conv_bytes {P : Program} (w : World) (src e dst : TypeId) (hs : P.underlying src = some (.slice e)) (he : P.underlying e = some (.int .u8)) (hd : P.underlying dst = some .string) (a : Option Addr) (n cap : Nat) (bs : List Nat) (h : HoldsB w a n bs) :
    (convert src dst (.slice a n cap)).run P w = .ok (.string (strN bs)) w := by
  have hl := h.len
  rcases Nat.eq_zero_or_pos n with h0 | h0
  · subst h0
    obtain rfl := List.eq_nil_of_length_eq_zero hl
    rw [run_convert_bytes_string w src dst e a 0 cap hs he hd]
    cases a with
    | none => simp [Conv.bytesToString]; rfl
    | some ad => simp [Conv.bytesToString]; rfl
  · obtain ⟨b, o, rfl, hc⟩ := h.at h0
    exact run_convert_bytes_arg (P := P) w src e hs he b o n cap (bs.map fun b : Nat => (b : Int)) (by simpa using hl) (fun i hi => by rw [hc i (by simpa [hl] using hi), getD_map_cast]) dst hd
/-- the bytes of the text at k -/
def textN (bs : List Nat) (k : Nat) : List Nat := (bs.take (k + 2 + numN bs k 2)).drop (k + 2)

theorem ret_mid {u v : Value} {x y : Int} (h : x = y) : Ending.returned (.tuple #[u, .int .i64 x, v]) = .returned (.tuple #[u, .int .i64 y, v]) := by rw [h]

end Go.Proofs.YtbbholdadgjelaaGreat
/- pack: bytes alike, bytes that begin with others -/
namespace Go.Proofs.YtbbholdadgjelaaGreat
open Go.RowKit
set_option linter.unusedVariables false
set_option maxRecDepth 20000
theorem strN_inj {x y : List Nat} (hx : ∀ b ∈ x, b < 256) (hy : ∀ b ∈ y, b < 256) : strN x = strN y ↔ x = y := by
  refine ⟨fun h => ?_, fun h => by rw [h]⟩
  have key : ∀ l : List Nat, (∀ b ∈ l, b < 256) → ((strN l).data.toList.map UInt8.toNat) = l := fun l hl => by
    unfold strN
    rw [strOfNums_data, List.map_map, List.map_map]
    refine (List.map_congr_left fun b hb => ?_).trans (List.map_id l)
    have := hl b hb
    simp
    omega
  rw [← key x hx, ← key y hy, h]
end Go.Proofs.YtbbholdadgjelaaGreat
/- pack: nodes as they are read, in memory -/
namespace Go.Proofs.YtbbholdadgjelaaGreat
open Go.RowKit
set_option linter.unusedVariables false
set_option maxRecDepth 20000
/-- so many nodes, read on from here; none: something was missing -/
def rdL (bs : List Nat) (n : Nat) : Nat → Nat → Option (List PN × Nat)
  | 0, at_ => some ([], at_)
  | k + 1, at_ => if (rdN bs n at_ false).2.2 then none else (rdL bs n k (rdN bs n at_ false).2.1).map (fun r => ((rdN bs n at_ false).1 :: r.1, r.2))
/-- the nodes of a body: none: it is no such body -/
def readP (body : List Nat) : Option (List PN) :=
  if body.take 4 = [73, 78, 75, 49] then
    let d := body.drop 4
    if okR d.length 0 2 false then
      match rdL d d.length (numR d d.length 0 2 false) 2 with
      | some (L, k) => if k = d.length then some L else none
      | none => none
    else none
  else none
/-- a node with where its edges lie -/
structure PM where
  fin : Bool
  es : List PE
  ea : Option Addr
  ec : Nat
def pm0 : PM := ⟨false, [], none, 0⟩
def pmP (x : PM) : PN := ⟨x.fin, x.es⟩
def pmV : List PM → List Value
  | [] => []
  | x :: l => .bool x.fin :: .slice x.ea x.es.length x.ec :: pmV l
theorem pmV_len : ∀ l : List PM, (pmV l).length = l.length * 2
  | [] => rfl
  | x :: l => by simp [pmV, pmV_len l]; omega
theorem pmV_app : ∀ k l : List PM, pmV (k ++ l) = pmV k ++ pmV l
  | [], l => rfl
  | x :: k, l => by simp [pmV, pmV_app k l]
theorem pmV_one : ∀ (l : List PM), ∀ u ∈ pmV l, u.oneCell' = true
  | [], u, h => by simp [pmV] at h
  | x :: l, u, h => by
    simp only [pmV, List.mem_cons] at h
    rcases h with h | h | h
    · subst h; rfl
    · subst h; rfl
    · exact pmV_one l u h
theorem pmV_at : ∀ (l : List PM) (i : Nat), i < l.length → (pmV l)[i * 2]? = some (.bool (l.getD i pm0).fin) ∧ (pmV l)[i * 2 + 1]? = some (.slice (l.getD i pm0).ea (l.getD i pm0).es.length (l.getD i pm0).ec)
  | [], i, h => by simp at h
  | x :: l, 0, _ => by simp [pmV]
  | x :: l, i + 1, h => by
    have ih := pmV_at l i (by simpa using h)
    have e1 : (i + 1) * 2 = i * 2 + 1 + 1 := by omega
    rw [e1]
    simpa [pmV] using ih
theorem turn_grown9 {w w' : World} {r : Option Nat} (h : w.grownBy w' r) : Turn (fun k => some k = r) w w' := ⟨h.os, h.tape, h.output, h.size, fun k hk hn => h.block k hk hn⟩
theorem own_turn9 {w w' : World} {B : Nat} {e : TypeId} {size n c : Nat} {a : Option Addr} {xs : List Value} {T : Nat → Prop} (h : w.ownsRow B e size (.slice a n c) n xs) (t : Turn T w w') (hT : ∀ k, a = some ⟨k, 0, none⟩ → ¬ T k) : w'.ownsRow B e size (.slice a n c) n xs :=
  gowns_block h fun g e => t.block g (h.lt g (by rw [e]; rfl)).2 (hT g e)
end Go.Proofs.YtbbholdadgjelaaGreat
/- pack: read -/
namespace Go.Proofs.YtbbholdadgjelaaGreat
open Go.RowKit
set_option linter.unusedVariables false
set_option maxRecDepth 20000
theorem magic4 (w : World) : Calls Tryz.prog 70 #[] w fun e w' => ∃ a c, e = .returned (.slice a 4 c) ∧ HoldsB w' a 4 [73, 78, 75, 49] ∧ Below w.heap.size w w' := by
  refine (magic_any w).mono ?_
  rintro e w' ⟨a, c, rfl, h1, h2, -⟩
  exact ⟨a, c, rfl, holdsB_of_values (owns_holds h1) (by decide), h2⟩
end Go.Proofs.YtbbholdadgjelaaGreat
/- pack: read, its walk -/
namespace Go.Proofs.YtbbholdadgjelaaGreat
open Go.RowKit
set_option linter.unusedVariables false
set_option maxRecDepth 20000
theorem rdE_le (bs : List Nat) (n : Nat) : ∀ (k at_ : Nat) (bad : Bool), at_ ≤ n → (rdE bs n k at_ bad).2.1 ≤ n
  | 0, at_, bad, h => h
  | k + 1, at_, bad, h => by
    rw [rdE_succ]
    simp only
    split
    · exact atR_le (atR_le h)
    · exact rdE_le bs n k _ false (atR_le (atR_le h))
theorem rdN_le (bs : List Nat) (n at_ : Nat) (bad : Bool) (h : at_ ≤ n) : (rdN bs n at_ bad).2.1 ≤ n := rdE_le bs n _ _ _ (atR_le (atR_le h))
end Go.Proofs.YtbbholdadgjelaaGreat
/- the library's Builder at this seat: WriteRune, String -/
namespace Go.Proofs.YtbbholdadgjelaaGreat
open Go.Shelf Go.RowKit
end Go.Proofs.YtbbholdadgjelaaGreat
/- text.Text: the program's (split from Tm1, Tm2) -/
namespace Go.Proofs.YtbbholdadgjelaaGreat
open Go.RowKit
set_option linter.unusedVariables false
set_option maxRecDepth 20000
def encS (r : Int) : ByteArray := ⟨(Lib.encodeRune r).toArray⟩
def encL (zs : List Int) : List UInt8 := zs.flatMap Lib.encodeRune
def encB (zs : List Int) : ByteArray := ⟨(encL zs).toArray⟩
def allG (zs : List Int) : Prop := ∀ z ∈ zs, goodP z
instance (zs : List Int) : Decidable (allG zs) := by unfold allG; infer_instance
def textZ (zs : List Int) : ByteArray := if allG zs then encB zs else ⟨#[]⟩
theorem encL_snoc (x : List Int) (r : Int) : encL (x ++ [r]) = encL x ++ Lib.encodeRune r := by simp [encL]
theorem encode_le (r : Int) : (Lib.encodeRune r).length ≤ 4 := by rw [← Lib.runeCells_length]; exact (Lib.runeCells_le r).2
theorem encL_le : ∀ zs : List Int, (encL zs).length ≤ 4 * zs.length
  | [] => by simp [encL]
  | z :: zs => by
    have h1 := encL_le zs
    have h2 := encode_le z
    have h3 : encL (z :: zs) = Lib.encodeRune z ++ encL zs := rfl
    rw [h3, List.length_append, List.length_cons]; omega
theorem encB_snoc (x : List Int) (r : Int) : encB x ++ encS r = encB (x ++ [r]) := by
  apply ByteArray.ext
  simp [encB, encS, encL_snoc]
theorem encB_size (zs : List Int) : (encB zs).size ≤ 4 * zs.length := by
  have := encL_le zs
  simpa [encB, ByteArray.size] using this
theorem byteCells_snoc (x : List Int) (r : Int) : Lib.byteCells (encL x) ++ Lib.runeCells r = Lib.byteCells (encL (x ++ [r])) := by
  rw [encL_snoc, Lib.byteCells_append, Lib.byteCells_encodeRune]
theorem textZ_bad {zs : List Int} (z : Int) (h : z ∈ zs) (hz : ¬ goodP z) : textZ zs = ⟨#[]⟩ ∧ decide (allG zs) = false := by
  have hn : ¬ allG zs := fun k => hz (k z h)
  exact ⟨if_neg hn, decide_eq_false hn⟩
theorem textZ_good {zs : List Int} (h : allG zs) : textZ zs = encB zs ∧ decide (allG zs) = true := ⟨if_pos h, decide_eq_true h⟩
theorem getD_mem' (zs : List Int) (j : Nat) (h : j < zs.length) : zs.getD j 0 ∈ zs := by
  rw [List.getD_eq_getElem?_getD, List.getElem?_eq_getElem h]; simp
end Go.Proofs.YtbbholdadgjelaaGreat
/- pack: the words that nodes tell, plain; the lister in memory -/
namespace Go.Proofs.YtbbholdadgjelaaGreat
open Go.RowKit
set_option linter.unusedVariables false
set_option maxRecDepth 20000
/-- a label as a rune -/
def runeL (x : Nat) : Int := IntKind.i32.wrap (x : Int)
def labT (x : Nat) : Tx := textZ [runeL x]
instance allG_dec (zs : List Int) : Decidable (allG zs) := by unfold allG; infer_instance
/-- over a node's edges: is all well, how many beginnings are left, the words -/
def folE (rf : Nat → Tx → Nat → List Tx → Bool × Nat × List Tx) (pre : Tx) : List PE → Nat → List Tx → Bool × Nat × List Tx
  | [], left, ws => (true, left, ws)
  | e :: es, left, ws =>
    if allG [runeL e.1] then
      (if (rf e.2 (pre ++ labT e.1) left ws).1 then folE rf pre es (rf e.2 (pre ++ labT e.1) left ws).2.1 (rf e.2 (pre ++ labT e.1) left ws).2.2 else (false, (rf e.2 (pre ++ labT e.1) left ws).2))
    else (false, left, ws)
def folF (L : List PN) : Nat → Nat → Tx → Nat → List Tx → Bool × Nat × List Tx
  | 0, n, pre, left, ws => (false, left, ws)
  | f + 1, n, pre, left, ws =>
    if L.length ≤ n ∨ left = 0 then (false, left, ws)
    else folE (folF L f) pre (L.getD n ⟨false, []⟩).es (left - 1) (if (L.getD n ⟨false, []⟩).fin then ws ++ [pre] else ws)
theorem folE_left {rf : Nat → Tx → Nat → List Tx → Bool × Nat × List Tx} (h : ∀ n pre left ws, (rf n pre left ws).2.1 ≤ left) (pre : Tx) : ∀ (es : List PE) (left : Nat) (ws : List Tx), (folE rf pre es left ws).2.1 ≤ left
  | [], left, ws => Nat.le_refl _
  | e :: es, left, ws => by
    unfold folE
    split
    · split
      · exact Nat.le_trans (folE_left h pre es _ _) (h _ _ _ _)
      · exact h _ _ _ _
    · exact Nat.le_refl _
theorem folF_left (L : List PN) : ∀ (f n : Nat) (pre : Tx) (left : Nat) (ws : List Tx), (folF L f n pre left ws).2.1 ≤ left
  | 0, n, pre, left, ws => Nat.le_refl _
  | f + 1, n, pre, left, ws => by
    unfold folF
    split
    · exact Nat.le_refl _
    · exact Nat.le_trans (folE_left (folF_left L f) pre _ _ _) (Nat.sub_le _ _)
end Go.Proofs.YtbbholdadgjelaaGreat
/- pack: follow -/
namespace Go.Proofs.YtbbholdadgjelaaGreat
open Go.RowKit
set_option linter.unusedVariables false
set_option maxRecDepth 20000
theorem strL_info : (Tryz.prog.info? 9).map (fun i => (i.zero, i.size, i.bytes)) = some (some (.string ⟨#[]⟩), 1, 16) := by kernel_rfl
theorem folE_few {rf : Nat → Tx → Nat → List Tx → Bool × Nat × List Tx} (h : ∀ n pre left ws, (rf n pre left ws).2.2.length + (rf n pre left ws).2.1 ≤ ws.length + left) (pre : Tx) : ∀ (es : List PE) (left : Nat) (ws : List Tx), (folE rf pre es left ws).2.2.length + (folE rf pre es left ws).2.1 ≤ ws.length + left
  | [], left, ws => Nat.le_refl _
  | e :: es, left, ws => by
    unfold folE
    split
    · split
      · exact Nat.le_trans (folE_few h pre es _ _) (h _ _ _ _)
      · exact h _ _ _ _
    · exact Nat.le_refl _
theorem folF_few (L : List PN) : ∀ (f n : Nat) (pre : Tx) (left : Nat) (ws : List Tx), (folF L f n pre left ws).2.2.length + (folF L f n pre left ws).2.1 ≤ ws.length + left
  | 0, n, pre, left, ws => Nat.le_refl _
  | f + 1, n, pre, left, ws => by
    unfold folF
    split
    · exact Nat.le_refl _
    · rename_i h
      refine Nat.le_trans (folE_few (folF_few L f) pre _ _ _) ?_
      split
      · rw [List.length_append, List.length_singleton]; omega
      · omega
theorem labT_size (x : Nat) : (labT x).size ≤ 4 := by
  unfold labT textZ
  split
  · have := encB_size [runeL x]
    simpa using this
  · exact Nat.zero_le _
end Go.Proofs.YtbbholdadgjelaaGreat
/- pack: follow, its walk -/
namespace Go.Proofs.YtbbholdadgjelaaGreat
open Go.RowKit
set_option linter.unusedVariables false
set_option maxRecDepth 20000
theorem folF_go (L : List PN) (f n : Nat) (pre : Tx) (left : Nat) (ws : List Tx) (h : ¬ (L.length ≤ n ∨ left = 0)) : folF L (f + 1) n pre left ws = folE (folF L f) pre (L.getD n ⟨false, []⟩).es (left - 1) (if (L.getD n ⟨false, []⟩).fin then ws ++ [pre] else ws) := by
  conv => lhs; unfold folF
  rw [if_neg h]
theorem holdsI_lit1G9 (w : World) (x : Int) (e : TypeId) (fr : Nat × Nat) : HoldsI .i32 (w.alloc (.cells #[.int .i32 x] e fr)) (some ⟨w.heap.size, 0, none⟩) 1 [x] := by
  refine ⟨rfl, fun _ => ⟨w.heap.size, 0, rfl, fun i hi => ?_⟩⟩
  obtain rfl : i = 0 := by omega
  rw [World.cell?_alloc_mark]; rfl
def GoodPM (NL : List PM) : Prop := ∀ x ∈ NL, ∀ e ∈ x.es, e.1 < 4294967296 ∧ e.2 < 65536 
end Go.Proofs.YtbbholdadgjelaaGreat
/- graph: Next, Has -/
namespace Go.Proofs.YtbbholdadgjelaaGreat
open Go.RowKit
set_option linter.unusedVariables false
set_option maxRecDepth 20000
def findE (r : Int) : List EdP → Int × Bool
  | [] => (0, false)
  | e :: l => if e.r = r then (e.dst, true) else findE r l
theorem findE_at (r : Int) : ∀ (es : List EdP) (j : Nat), j < es.length → (∀ x ∈ es.take j, x.r ≠ r) → (es.getD j ed0).r = r → findE r es = ((es.getD j ed0).dst, true)
  | [], j, h, _, _ => by simp at h
  | e :: l, 0, _, _, h => by
    have h' : e.r = r := h
    rw [findE, if_pos h']; rfl
  | e :: l, j + 1, h, ha, hr => by
    have h' : e.r ≠ r := ha e (by simp)
    rw [findE, if_neg h']
    exact findE_at r l j (by simpa using h) (fun x hx => ha x (by simp [hx])) hr
theorem findE_none (r : Int) : ∀ (es : List EdP), (∀ x ∈ es, x.r ≠ r) → findE r es = (0, false)
  | [], _ => rfl
  | e :: l, h => by
    rw [findE, if_neg (h e (by simp))]
    exact findE_none r l (fun x hx => h x (by simp [hx]))
def nextG (st : List GN) (n r : Int) : Int × Bool := findE r (edgesG st n)
theorem take_ed (l : List EdP) (j : Nat) (h : j < l.length) : l.take (j + 1) = l.take j ++ [l.getD j ed0] := by
  rw [List.take_add_one, List.getElem?_eq_getElem h, List.getD_eq_getElem?_getD, List.getElem?_eq_getElem h]; rfl
/-- where a text leads from a node on -/
def walkG (st : List GN) : List Nat → Int → Option Int
  | [], n => some n
  | r :: l, n => if (nextG st n (r : Int)).2 then walkG st l (nextG st n (r : Int)).1 else none
def endG (st : List GN) : Option Int → Bool
  | some n => finG st n
  | none => false
def hasW (st : List GN) (rs : List Nat) : Bool := endG st (walkG st rs 0)
end Go.Proofs.YtbbholdadgjelaaGreat
/- graph: Has -/
namespace Go.Proofs.YtbbholdadgjelaaGreat
open Go.RowKit
set_option linter.unusedVariables false
set_option maxRecDepth 20000
end Go.Proofs.YtbbholdadgjelaaGreat
/- two lists of api.Edge: held against each other -/
namespace Go.Proofs.YtbbholdadgjelaaGreat
open Go.RowKit
set_option linter.unusedVariables false
set_option maxRecDepth 20000
theorem ssEdges (x : ByteArray) : (x.toList == x.toList) = true := by simp
end Go.Proofs.YtbbholdadgjelaaGreat
/- graph: awake, and of no graph -/
namespace Go.Proofs.YtbbholdadgjelaaGreat
open Go.RowKit
set_option linter.unusedVariables false
set_option maxRecDepth 20000
def gAB : Tx := ⟨#[97, 98]⟩
def gCB : Tx := ⟨#[99, 98]⟩
def gB : Tx := ⟨#[98]⟩
theorem aw_good : goodV [gAB, gCB] = 0 := by kernel_rfl
theorem aw_len : (grS [gAB, gCB]).length = 3 := by kernel_rfl
theorem aw_e0 : edgesG (grS [gAB, gCB]) 0 = [⟨97, 1⟩, ⟨99, 1⟩] := by kernel_rfl
theorem aw_has : hasW (grS [gAB, gCB]) (runesS gAB) = true := by kernel_rfl
theorem aw_hasnt : hasW (grS [gAB, gCB]) (runesS gB) = false := by kernel_rfl
theorem aw_few : ∀ x ∈ grS [gAB, gCB], x.edges.length ≤ 1000 := by
  have h : (grS [gAB, gCB]).all (fun x => decide (x.edges.length ≤ 1000)) = true := by kernel_rfl
  intro x hx
  exact of_decide_eq_true (List.all_eq_true.1 h x hx)
theorem holdsT_litG (w : World) (a b : Tx) (e : TypeId) (fr : Nat × Nat) : HoldsT (w.alloc (.cells #[.string a, .string b] e fr)) (some ⟨w.heap.size, 0, none⟩) 2 [a, b] := by
  refine ⟨by simp [strsV], fun _ => ⟨w.heap.size, 0, rfl, fun i hi => ?_⟩⟩
  rw [Nat.zero_add, World.cell?_alloc_mark]
  match i, hi with
  | 0, _ => rfl
  | 1, _ => rfl
theorem holdsEd_lit2 (w : World) (a b : EdP) (e : TypeId) (fr : Nat × Nat) : HoldsEd (w.alloc (.cells #[.int .i32 a.r, .int .i64 a.dst, .int .i32 b.r, .int .i64 b.dst] e fr)) (some ⟨w.heap.size, 0, none⟩) 2 [a, b] := by
  refine ⟨rfl, fun _ => ⟨w.heap.size, 0, rfl, fun i hi => ?_⟩⟩
  match i, hi with
  | 0, _ => constructor <;> (rw [World.cell?_alloc_mark]; rfl)
  | 1, _ => constructor <;> (rw [World.cell?_alloc_mark]; rfl)
/-- a graph in a world that has grown, its blocks the call's own -/
structure CtxG (w0 w : World) (g : Nat) (st : List GN) (S : Nat → Prop) : Prop where
  G : GAt g st w S
  s : ∀ k, S k → w0.heap.size ≤ k
  b : Below w0.heap.size w0 w
theorem CtxG.more {w0 w w' : World} {g : Nat} {st : List GN} {S : Nat → Prop} (c : CtxG w0 w g st S) (hb : Below w.heap.size w w') : CtxG w0 w' g st S :=
  ⟨(gAt_ok g st).below c.G hb, c.s, c.b.trans (hb.mono c.b.size)⟩
theorem build_c {w0 : World} (a : Option Addr) (n cap : Nat) (ts : List Tx) (st : List GN) (w : World) (hw : Below w0.heap.size w0 w) (hh : HoldsT w a n ts) (hc : n ≤ cap) (hn : n ≤ 9223372036854775807) (hs : ∀ t ∈ ts, t.size ≤ 100) (hv : goodV ts = 0) (hst : grS ts = st) :
    Calls Tryz.prog 56 #[.slice a n cap] w fun e w' => ∃ g S, e = .returned (.tuple #[.pointer (some ⟨g, 0, none⟩), .int .i64 0]) ∧ CtxG w0 w' g st S ∧ Below w.heap.size w w' := by
  subst hst
  exact (build_good a n cap ts w hh hc hn hs hv).mono fun e w' ⟨g, S, e1, h1, h2, h3⟩ => ⟨g, S, e1, ⟨h1, fun k hk => Nat.le_trans hw.size (h2 k hk), hw.trans (h3.mono hw.size)⟩, h3⟩
theorem gNodes_c (v : Int) {w0 : World} {g : Nat} {st : List GN} {S : Nat → Prop} (w : World) (c : CtxG w0 w g st S) (hv : (st.length : Int) = v) :
    Calls Tryz.prog 72 #[.pointer (some ⟨g, 0, none⟩)] w fun e w' => e = .returned (.int .i64 v) ∧ w = w' := by subst hv; exact gNodes_any g st S w c.G
theorem gEdges_c (n : Int) (es : List EdP) {w0 : World} {g : Nat} {st : List GN} {S : Nat → Prop} (w : World) (c : CtxG w0 w g st S) (hE : ∀ x ∈ st, x.edges.length ≤ 1000) (hv : edgesG st n = es) :
    Calls Tryz.prog 73 #[.pointer (some ⟨g, 0, none⟩), .int .i64 n] w (RetEd w es) := by subst hv; exact gEdges_any g st S n w c.G hE
end Go.Proofs.YtbbholdadgjelaaGreat
/- graph: what a built graph keeps, plain -/
namespace Go.Proofs.YtbbholdadgjelaaGreat
open Go.RowKit
set_option linter.unusedVariables false
set_option maxRecDepth 20000
def restsG (st : List GN) : List (List Tx) := st.map GN.rests
/-- the edges of the texts' first runes, each to a node of what is behind it -/
def EdOk (R : List (List Tx)) : List Tx → List EdP → Prop
  | l, [] => l = []
  | l, e :: es => l ≠ [] ∧ e.r = ((folS l).1 : Int) ∧ (∃ k : Nat, e.dst = (k : Int) ∧ R[k]? = some (folS l).2) ∧ EdOk R (l.drop (folS l).2.length) es
theorem EdOk.app {R T : List (List Tx)} : ∀ {es : List EdP} {l : List Tx}, EdOk R l es → EdOk (R ++ T) l es
  | [], l, h => h
  | e :: es, l, h => by
    obtain ⟨h1, h2, ⟨k, h3, h4⟩, h5⟩ := h
    have hk := (List.getElem?_eq_some_iff.1 h4).1
    exact ⟨h1, h2, ⟨k, h3, by rw [List.getElem?_append_left hk]; exact h4⟩, h5.app⟩
theorem OkL.mono {f g : Nat} {l : List Tx} (h : OkL f l) (hg : f ≤ g) : OkL g l := ⟨h.ord, h.lo, fun t ht => by have := h.hi t ht; omega, h.n, h.sz⟩
structure NOk (R : List (List Tx)) (g : GN) : Prop where
  fin : g.final = finS g.rests
  ed : EdOk R (bodS g.rests) g.edges
  ok : OkL 12 g.rests
theorem NOk.app {R T : List (List Tx)} {g : GN} (h : NOk R g) : NOk (R ++ T) g := ⟨h.fin, h.ed.app, h.ok⟩
theorem restsG_app (a b : List GN) : restsG (a ++ b) = restsG a ++ restsG b := by simp [restsG]
theorem find_none {st : List GN} {s : List Tx} (h : findG st s = none) : s ∉ restsG st := by
  unfold findG at h
  rw [List.findIdx?_eq_none_iff] at h
  intro hm
  obtain ⟨g, hg, e⟩ := List.mem_map.1 hm
  have := h g hg
  simp [e] at this
theorem find_some {st : List GN} {s : List Tx} {i : Nat} (h : findG st s = some i) : (restsG st)[i]? = some s := by
  unfold findG at h
  obtain ⟨h1, h2, -⟩ := List.findIdx?_eq_some_iff_getElem.1 h
  have e : st[i].rests = s := of_decide_eq_true h2
  rw [restsG, List.getElem?_map, List.getElem?_eq_getElem h1, Option.map_some, e]
theorem reach_found {f : Nat} {st : List GN} {s : List Tx} {i : Nat} (h : findG st s = some i) : reachF (f + 1) st s = (i, st) := by unfold reachF; rw [h]
theorem set_mid {α : Type} (a b : List α) (x y : α) : ((a ++ [x]) ++ b).set a.length y = a ++ (y :: b) := by
  rw [List.append_assoc, List.set_append_right _ _ (Nat.le_refl _), Nat.sub_self]; rfl
theorem reach_new {f : Nat} {st t : List GN} {s : List Tx} {es : List EdP} (h : findG st s = none) (hk : edgesF (reachF f) (bodS s).length (bodS s) [] (st ++ [⟨s, false, []⟩]) = (es, (st ++ [⟨s, false, []⟩]) ++ t)) :
    reachF (f + 1) st s = (st.length, st ++ (⟨s, finS s, es⟩ :: t)) := by
  unfold reachF
  rw [h, hk]
  simp only [set_mid]
structure ROk (st t : List GN) (s : List Tx) (i : Nat) : Prop where
  at_ : (restsG (st ++ t))[i]? = some s
  nodes : ∀ g ∈ t, NOk (restsG (st ++ t)) g
  nodup : (restsG st).Nodup → (restsG (st ++ t)).Nodup
  some_ : s ≠ [] → ∀ g ∈ t, g.rests ≠ []
theorem rok_new {f : Nat} {st t : List GN} {s : List Tx} {es : List EdP} (hs : OkL 12 s) (h : findG st s = none) (he : EdOk (restsG ((st ++ [⟨s, false, []⟩]) ++ t)) (bodS s) es) (hn : ∀ g ∈ t, NOk (restsG ((st ++ [⟨s, false, []⟩]) ++ t)) g) (hd : (restsG (st ++ [⟨s, false, []⟩])).Nodup → (restsG ((st ++ [⟨s, false, []⟩]) ++ t)).Nodup) (hm : s ≠ [] → ∀ g ∈ t, g.rests ≠ []) :
    ROk st (⟨s, finS s, es⟩ :: t) s st.length := by
  have e : restsG (st ++ (⟨s, finS s, es⟩ :: t)) = restsG ((st ++ [⟨s, false, []⟩]) ++ t) := by simp [restsG]
  have hl : (restsG st).length = st.length := by simp [restsG]
  refine ⟨?_, fun g hg => ?_, fun hnd => ?_, fun h0 g hg => ?_⟩
  · rw [restsG_app, List.getElem?_append_right (by omega), hl, Nat.sub_self]; rfl
  · rw [e]
    rcases List.mem_cons.1 hg with rfl | hg
    · exact ⟨rfl, he, hs⟩
    · exact hn g hg
  · rw [e]
    refine hd ?_
    rw [restsG_app]
    refine List.nodup_append.2 ⟨hnd, by simp [restsG], fun a ha b hb => ?_⟩
    simp only [restsG, List.map_cons, List.map_nil, List.mem_singleton] at hb
    subst hb
    exact fun e2 => find_none h (e2 ▸ ha)
  · rcases List.mem_cons.1 hg with rfl | hg
    · exact h0
    · exact hm h0 g hg
theorem bod_none {s : List Tx} (h : OkL 0 s) : bodS s = [] := by
  cases hbs : bodS s with
  | nil => rfl
  | cons t l =>
    have hm : t ∈ bodS s := by rw [hbs]; simp
    have h1 := bod_pos h.ord t hm
    have h2 := rst_len (h.bod.lo t hm) h1
    have h3 := h.bod.hi t hm
    omega
theorem reach_ok (f : Nat) (hf : f ≤ 12) : ∀ (st : List GN) (s : List Tx), OkL f s → ∃ t i, reachF (f + 1) st s = (i, st ++ t) ∧ ROk st t s i := by
  induction f with
  | zero =>
    intro st s h
    cases hfd : findG st s with
    | some i => exact ⟨[], i, by rw [reach_found hfd, List.append_nil], ⟨by rw [List.append_nil]; exact find_some hfd, fun g hg => by simp at hg, fun h => by rwa [List.append_nil], fun _ g hg => by simp at hg⟩⟩
    | none =>
      have hb := bod_none h
      refine ⟨[⟨s, finS s, []⟩], st.length, reach_new (t := []) hfd (by rw [hb, List.append_nil]; rfl), rok_new (f := 0) (t := []) (h.mono hf) hfd (by rw [hb]; rfl) (fun g hg => by simp at hg) (fun h => by rwa [List.append_nil]) (fun _ g hg => by simp at hg)⟩
  | succ f ih =>
    intro st s h
    cases hfd : findG st s with
    | some i => exact ⟨[], i, by rw [reach_found hfd, List.append_nil], ⟨by rw [List.append_nil]; exact find_some hfd, fun g hg => by simp at hg, fun h => by rwa [List.append_nil], fun _ g hg => by simp at hg⟩⟩
    | none =>
      have key : ∀ (n : Nat) (l : List Tx) (es : List EdP) (st1 : List GN), l.length ≤ n → OkL (f + 1) l → (∀ t ∈ l, 0 < t.size) → ∃ t es', edgesF (reachF (f + 1)) n l es st1 = (es ++ es', st1 ++ t) ∧ EdOk (restsG (st1 ++ t)) l es' ∧ (∀ g ∈ t, NOk (restsG (st1 ++ t)) g) ∧ ((restsG st1).Nodup → (restsG (st1 ++ t)).Nodup) ∧ ∀ g ∈ t, g.rests ≠ [] := by
        intro n
        induction n with
        | zero =>
          intro l es st1 hn _ _
          obtain rfl : l = [] := List.eq_nil_of_length_eq_zero (by omega)
          exact ⟨[], [], by simp [edgesF], rfl, fun g hg => by simp at hg, fun h => by rwa [List.append_nil], fun g hg => by simp at hg⟩
        | succ n ihn =>
          intro l es st1 hn hl hp
          by_cases h0 : l = []
          · subst h0
            exact ⟨[], [], by simp [edgesF], rfl, fun g hg => by simp at hg, fun h => by rwa [List.append_nil], fun g hg => by simp at hg⟩
          · obtain ⟨hfl, hfl2⟩ := fol_len l h0
            obtain ⟨t1, i, e1, r1⟩ := ih (by omega) st1 (folS l).2 (hl.fol hp)
            obtain ⟨t2, es2, e2, d1, d2, d3, d4⟩ := ihn (l.drop (folS l).2.length) (es ++ [⟨((folS l).1 : Int), (i : Int)⟩]) (st1 ++ t1) (by rw [List.length_drop]; omega) (hl.drop _) (fun t ht => hp t (List.mem_of_mem_drop ht))
            have hne : (folS l).2 ≠ [] := fun e => by rw [e] at hfl; simp at hfl
            refine ⟨t1 ++ t2, ⟨((folS l).1 : Int), (i : Int)⟩ :: es2, ?_, ?_, fun g hg => ?_, fun hd => ?_, fun g hg => ?_⟩
            · unfold edgesF
              rw [if_neg h0, e1]
              simp only
              rw [e2, List.append_assoc, List.append_assoc]; rfl
            · rw [← List.append_assoc]
              refine ⟨h0, rfl, ⟨i, rfl, ?_⟩, d1⟩
              rw [restsG_app, List.getElem?_append_left (List.getElem?_eq_some_iff.1 r1.at_).1]
              exact r1.at_
            · rw [← List.append_assoc]
              rcases List.mem_append.1 hg with hg | hg
              · rw [restsG_app]; exact (r1.nodes g hg).app
              · exact d2 g hg
            · rw [← List.append_assoc]; exact d3 (r1.nodup hd)
            · rcases List.mem_append.1 hg with hg | hg
              · exact r1.some_ hne g hg
              · exact d4 g hg
      obtain ⟨t, es, k1, k2, k3, k4, k5⟩ := key (bodS s).length (bodS s) [] (st ++ [⟨s, false, []⟩]) (Nat.le_refl _) h.bod (bod_pos h.ord)
      exact ⟨_, _, reach_new hfd k1, rok_new (f := 0) (h.mono hf) hfd k2 k3 k4 (fun _ => k5)⟩
/-- the nodes of the words -/
structure GOk (st : List GN) (ts : List Tx) : Prop where
  root : (restsG st)[0]? = some ts
  nodes : ∀ g ∈ st, NOk (restsG st) g
  nodup : (restsG st).Nodup
  some_ : ts ≠ [] → ∀ g ∈ st, g.rests ≠ []
theorem graph_ok {ts : List Tx} (h : OkL 12 ts) : GOk (reachF 13 [] ts).2 ts := by
  obtain ⟨t, i, e, r⟩ := reach_ok 12 (Nat.le_refl _) [] ts h
  have h0 : (reachF 13 [] ts).1 = 0 := by
    unfold reachF
    have : findG [] ts = none := rfl
    rw [this]; rfl
  rw [e] at h0 ⊢
  simp only [List.nil_append] at *
  subst h0
  exact ⟨by simpa using r.at_, fun g hg => by simpa using r.nodes g hg, by simpa [restsG] using r.nodup (by simp [restsG]), r.some_⟩
end Go.Proofs.YtbbholdadgjelaaGreat
/- graph: along a text's runes one comes to an end just if it is there -/
namespace Go.Proofs.YtbbholdadgjelaaGreat
open Go.RowKit
set_option linter.unusedVariables false
set_option maxRecDepth 20000
theorem lab_le {s t : Tx} (hs : 0 ≤ lenS s) (ht : 0 ≤ lenS t) (s0 : 0 < s.size) (t0 : 0 < t.size) (h : cmpS s t < 0) : labS s ≤ labS t := by
  rw [cmpS_runes s t hs ht, rst_runes hs s0, rst_runes ht t0] at h
  simp only [lexN] at h
  by_cases h1 : labS s ≤ labS t
  · exact h1
  · split at h <;> first | omega | (split at h <;> omega)
/-- texts in order, none empty, each well made -/
structure Run (l : List Tx) : Prop where
  ord : SortedS l
  pos : ∀ t ∈ l, 0 < t.size
  lo : ∀ t ∈ l, 0 ≤ lenS t
theorem Run.drop {l : List Tx} (h : Run l) (k : Nat) : Run (l.drop k) :=
  ⟨List.Pairwise.sublist (List.drop_sublist _ _) h.ord, fun t ht => h.pos t (List.mem_of_mem_drop ht), fun t ht => h.lo t (List.mem_of_mem_drop ht)⟩
theorem dw_first {α : Type} (p : α → Bool) : ∀ (l : List α) (x : α) (m : List α), l.dropWhile p = x :: m → p x = false
  | [], x, m, h => by simp at h
  | y :: l, x, m, h => by
    rw [List.dropWhile_cons] at h
    split at h
    · exact dw_first p l x m h
    · rename_i hy
      injection h with h1 h2
      subst h1
      simpa using hy
theorem drop_tw {α : Type} (p : α → Bool) : ∀ l : List α, l.drop (l.takeWhile p).length = l.dropWhile p
  | [] => rfl
  | x :: l => by
    by_cases h : p x = true
    · rw [List.takeWhile_cons, if_pos h, List.dropWhile_cons, if_pos h, List.length_cons, List.drop_succ_cons, drop_tw p l]
    · rw [List.takeWhile_cons, if_neg h, List.dropWhile_cons, if_neg h]; rfl
/-- behind the first's own, all begin with another rune -/
theorem Run.rest {s : Tx} {l : List Tx} (h : Run (s :: l)) : ∀ t ∈ (s :: l).drop (folS (s :: l)).2.length, labS s < labS t := by
  have e : (folS (s :: l)).2.length = ((s :: l).takeWhile (fun t => decide (labS t = labS s))).length := by unfold folS; rw [List.length_map]
  rw [e, drop_tw]
  cases hd : (s :: l).dropWhile (fun t => decide (labS t = labS s)) with
  | nil => intro t ht; simp at ht
  | cons x m =>
    have hx : labS x ≠ labS s := of_decide_eq_false (dw_first (fun t => decide (labS t = labS s)) _ _ _ hd)
    have sub : (x :: m).Sublist (s :: l) := hd ▸ List.dropWhile_sublist _
    have hxm : x ∈ s :: l := sub.subset (by simp)
    have hsx : labS s ≤ labS x := by
      rcases List.mem_cons.1 hxm with rfl | hm
      · exact Nat.le_refl _
      · exact lab_le (h.lo s (by simp)) (h.lo x hxm) (h.pos s (by simp)) (h.pos x hxm) ((List.pairwise_cons.1 h.ord).1 x hm)
    have ho := List.Pairwise.sublist sub h.ord
    intro t ht
    have htm := sub.subset ht
    have hxt : labS x ≤ labS t := by
      rcases List.mem_cons.1 ht with rfl | hm
      · exact Nat.le_refl _
      · exact lab_le (h.lo x hxm) (h.lo t htm) (h.pos x hxm) (h.pos t htm) ((List.pairwise_cons.1 ho).1 t hm)
    omega
theorem same_lab {s t : Tx} (hs : 0 ≤ lenS s) (ht : 0 ≤ lenS t) (s0 : 0 < s.size) (t0 : 0 < t.size) (hl : labS s = labS t) (hr : rstS s = rstS t) : s = t := by
  have h := rst_ord hs ht s0 t0 hl
  rw [hr, cmpS_same] at h
  exact cmpS_zero.1 h.symm
theorem mem_fol {s : Tx} {l : List Tx} (h : Run (s :: l)) {w : Tx} (w0 : 0 < w.size) (wl : 0 ≤ lenS w) (hl : labS s = labS w) : w ∈ s :: l ↔ rstS w ∈ (folS (s :: l)).2 := by
  have sub := List.takeWhile_sublist (l := s :: l) (fun t => decide (labS t = labS s))
  have e : (folS (s :: l)).2 = ((s :: l).takeWhile (fun t => decide (labS t = labS s))).map rstS := rfl
  constructor
  · intro hm
    rw [e]
    refine List.mem_map.2 ⟨w, ?_, rfl⟩
    rw [← List.takeWhile_append_dropWhile (p := fun t => decide (labS t = labS s)) (l := s :: l)] at hm
    rcases List.mem_append.1 hm with hm | hm
    · exact hm
    · have e2 : (folS (s :: l)).2.length = ((s :: l).takeWhile (fun t => decide (labS t = labS s))).length := by unfold folS; rw [List.length_map]
      rw [← drop_tw, ← e2] at hm
      have := h.rest w hm
      omega
  · intro hm
    rw [e] at hm
    obtain ⟨u, hu, e3⟩ := List.mem_map.1 hm
    have hum := sub.subset hu
    have hul : labS u = labS s := by have h1 := mem_tw (p := fun t => decide (labS t = labS s)) hu; exact of_decide_eq_true h1
    rw [← same_lab (h.lo u hum) wl (h.pos u hum) w0 (hul.trans hl) e3]
    exact hum
theorem mem_past {s : Tx} {l : List Tx} {w : Tx} (hl : labS s ≠ labS w) : w ∈ s :: l ↔ w ∈ (s :: l).drop (folS (s :: l)).2.length := by
  have e2 : (folS (s :: l)).2.length = ((s :: l).takeWhile (fun t => decide (labS t = labS s))).length := by unfold folS; rw [List.length_map]
  rw [e2, drop_tw]
  conv => lhs; rw [← List.takeWhile_append_dropWhile (p := fun t => decide (labS t = labS s)) (l := s :: l)]
  rw [List.mem_append]
  constructor
  · rintro (h | h)
    · have h1 := mem_tw (p := fun t => decide (labS t = labS s)) h
      exact absurd (of_decide_eq_true h1).symm hl
    · exact h
  · exact Or.inr
theorem findE_ok {R : List (List Tx)} {w : Tx} (w0 : 0 < w.size) (wl : 0 ≤ lenS w) : ∀ (es : List EdP) (l : List Tx), EdOk R l es → Run l →
    (∃ (k : Nat) (m : List Tx), findE (labS w : Int) es = ((k : Int), true) ∧ R[k]? = some m ∧ (w ∈ l ↔ rstS w ∈ m)) ∨ (findE (labS w : Int) es = (0, false) ∧ w ∉ l)
  | [], l, h, _ => Or.inr ⟨rfl, by rw [show l = [] from h]; simp⟩
  | e :: es, [], h, _ => absurd rfl h.1
  | e :: es, s :: l, h, hr => by
    obtain ⟨h1, h2, ⟨k, h3, h4⟩, h5⟩ := h
    have h2 : e.r = (labS s : Int) := h2
    by_cases hl : labS s = labS w
    · refine Or.inl ⟨k, (folS (s :: l)).2, ?_, h4, mem_fol hr w0 wl hl⟩
      rw [findE, if_pos (by rw [h2, hl]), h3]
    · have hne : ¬ e.r = (labS w : Int) := fun e2 => hl (by rw [h2] at e2; exact Int.ofNat.inj e2)
      rw [findE, if_neg hne, mem_past hl]
      exact findE_ok w0 wl es _ h5 (hr.drop _)
theorem ed_good {R : List (List Tx)} : ∀ (es : List EdP) (l : List Tx), EdOk R l es → Run l → ∀ e ∈ es, e.r ≠ 65533
  | [], l, _, _ => fun e he => by simp at he
  | e :: es, [], h, _ => absurd rfl h.1
  | e :: es, s :: l, h, hr => by
    obtain ⟨h1, h2, -, h5⟩ := h
    have h2 : e.r = (labS s : Int) := h2
    intro x hx
    rcases List.mem_cons.1 hx with rfl | hx
    · have := (good_first (hr.lo s (by simp)) (hr.pos s (by simp))).1
      rw [h2]
      intro e2
      exact this (Int.ofNat.inj e2)
    · exact ed_good es _ h5 (hr.drop _) x hx
theorem OkL.run {f : Nat} {l : List Tx} (h : OkL f l) : Run (bodS l) := ⟨h.bod.ord, bod_pos h.ord, h.bod.lo⟩
theorem GOk.node {st : List GN} {ts : List Tx} (G : GOk st ts) {k : Nat} {l : List Tx} (h : (restsG st)[k]? = some l) : k < st.length ∧ (st.getD k gn0).rests = l ∧ NOk (restsG st) (st.getD k gn0) := by
  obtain ⟨h1, h2⟩ := List.getElem?_eq_some_iff.1 h
  have hk : k < st.length := by simpa [restsG] using h1
  have e : st.getD k gn0 = st[k] := by rw [List.getD_eq_getElem?_getD, List.getElem?_eq_getElem hk]; rfl
  refine ⟨hk, ?_, ?_⟩
  · rw [e, ← h2]; simp [restsG]
  · rw [e]; exact G.nodes _ (List.getElem_mem hk)
theorem fin_mem {l : List Tx} (h : SortedS l) : finS l = decide ((⟨#[]⟩ : ByteArray) ∈ l) := by
  cases l with
  | nil => rfl
  | cons s l =>
    unfold finS
    refine decide_eq_decide.2 ?_
    rw [List.head?_cons, List.mem_cons]
    constructor
    · intro e; injection e with e; exact Or.inl e.symm
    · rintro (e | e)
      · rw [e]
      · exact absurd ((List.pairwise_cons.1 h).1 _ e) (cmp_empty s)
theorem mem_bod {l : List Tx} {w : Tx} (h : 0 < w.size) : w ∈ l ↔ w ∈ bodS l := by
  unfold bodS
  split
  · rename_i hf
    cases l with
    | nil => simp
    | cons s l =>
      have : s = ⟨#[]⟩ := by
        have h2 : (s :: l).head? = some (⟨#[]⟩ : ByteArray) := of_decide_eq_true hf
        rw [List.head?_cons] at h2; injection h2
      rw [List.mem_cons, List.tail_cons]
      refine ⟨fun e => e.resolve_left fun e2 => ?_, Or.inr⟩
      rw [e2, this] at h
      exact absurd h (by simp [ByteArray.size])
  · exact Iff.rfl
theorem has_at {st : List GN} {k : Nat} (h : k < st.length) : hasG st (k : Int) = true ∧ edgesG st (k : Int) = (st.getD k gn0).edges ∧ finG st (k : Int) = (st.getD k gn0).final := by
  have h1 : hasG st (k : Int) = true := by unfold hasG; exact decide_eq_true (by omega)
  refine ⟨h1, ?_, ?_⟩
  · unfold edgesG; rw [if_pos h1]; rfl
  · unfold finG; rw [h1]; simp
theorem walk_in {st : List GN} {ts : List Tx} (G : GOk st ts) : ∀ (n : Nat) (w : Tx), w.size ≤ n → 0 ≤ lenS w → ∀ (k : Nat) (l : List Tx), (restsG st)[k]? = some l → endG st (walkG st (runesS w) (k : Int)) = decide (w ∈ l) := by
  intro n
  induction n with
  | zero =>
    intro w hw _ k l hk
    obtain rfl := empty_size (Nat.le_zero.1 hw)
    obtain ⟨h1, h2, h3⟩ := G.node hk
    have := (has_at h1).2.2
    show finG st (k : Int) = _
    rw [this, h3.fin, h2]
    exact fin_mem (h2 ▸ h3.ok.ord)
  | succ n ih =>
    intro w hw hl k l hk
    obtain ⟨h1, h2, h3⟩ := G.node hk
    obtain ⟨a1, a2, a3⟩ := has_at h1
    rcases Nat.eq_zero_or_pos w.size with h0 | h0
    · obtain rfl := empty_size h0
      show finG st (k : Int) = _
      rw [a3, h3.fin, h2]
      exact fin_mem (h2 ▸ h3.ok.ord)
    · have hb : w ∈ l ↔ w ∈ bodS l := mem_bod h0
      have he := h3.ed
      have hr := h3.ok.run
      rw [h2] at he hr
      rw [rst_runes hl h0]
      unfold walkG nextG
      rw [a2]
      rcases findE_ok h0 hl _ _ he hr with ⟨k', m, e1, e2, e3⟩ | ⟨e1, e2⟩
      · rw [e1, if_pos rfl]
        rw [ih (rstS w) (by have := (rst_size hl h0).2; omega) (rst_len hl h0).1 k' m e2]
        exact decide_eq_decide.2 (e3.symm.trans hb.symm)
      · rw [e1, if_neg (by simp)]
        show false = _
        exact (decide_eq_false (fun e => e2 (hb.1 e))).symm
theorem edges_good {st : List GN} {ts : List Tx} (G : GOk st ts) (n : Int) : ∀ e ∈ edgesG st n, e.r ≠ 65533 := by
  cases hb : hasG st n with
  | false => unfold edgesG; rw [if_neg (by rw [hb]; simp)]; intro e he; simp at he
  | true =>
    obtain ⟨k, rfl, hk⟩ := hasG_yes hb
    rw [(has_at hk).2.1]
    have hR : (restsG st)[k]? = some st[k].rests := by simp [restsG, hk]
    obtain ⟨h1, h2, h3⟩ := G.node hR
    exact ed_good _ _ h3.ed h3.ok.run
theorem walk_bad {st : List GN} {ts : List Tx} (G : GOk st ts) : ∀ (rs : List Nat) (n : Int), 65533 ∈ rs → endG st (walkG st rs n) = false
  | [], n, h => by simp at h
  | r :: l, n, h => by
    unfold walkG
    by_cases h1 : r = 65533
    · subst h1
      unfold nextG
      rw [findE_none ((65533 : Nat) : Int) _ (fun x hx => edges_good G n x hx), if_neg (by simp)]; rfl
    · have h2 : 65533 ∈ l := (List.mem_cons.1 h).resolve_left (Ne.symm h1)
      split
      · exact walk_bad G l _ h2
      · rfl
/-- a text is there just if its runes lead to an end -/
theorem has_in {st : List GN} {ts : List Tx} (G : GOk st ts) (hts : ∀ t ∈ ts, 0 ≤ lenS t) (w : Tx) : hasW st (runesS w) = decide (w ∈ ts) := by
  unfold hasW
  by_cases hl : 0 ≤ lenS w
  · exact walk_in G w.size w (Nat.le_refl _) hl 0 ts G.root
  · rw [show (0 : Int) = ((0 : Nat) : Int) from rfl]
    have hm : 65533 ∈ runesS w := by
      refine Classical.byContradiction fun hn => hl ?_
      unfold lenS
      rw [if_neg hn]; omega
    rw [walk_bad G _ _ hm]
    exact (decide_eq_false (fun e => hl (hts w e))).symm
end Go.Proofs.YtbbholdadgjelaaGreat
/- contract of list.At -/
namespace Go.Proofs.YtbbholdadgjelaaGreat
open Go.RowKit
set_option linter.unusedVariables false
set_option maxRecDepth 20000
theorem getD_cons_zero (x : Tx) (xs : List Tx) : (x :: xs).getD 0 ByteArray.empty = x := rfl
theorem getD_cons_succ (x : Tx) (xs : List Tx) (i : Nat) : (x :: xs).getD (i + 1) ByteArray.empty = xs.getD i ByteArray.empty := rfl
theorem getD_at {xs : List Tx} {i : Nat} (h : i < xs.length) : xs.getD i ByteArray.empty = xs[i] := by simp [List.getD_eq_getElem?_getD, h]
theorem sorted_at {xs : List Tx} (h : SortedS xs) {i j : Nat} (hij : i < j) (hj : j < xs.length) : cmpS (xs.getD i ByteArray.empty) (xs.getD j ByteArray.empty) < 0 := by
  have := List.pairwise_iff_getElem.1 h i j (by omega) hj hij
  rw [getD_at (show i < xs.length by omega), getD_at hj]; exact this
theorem atN_of : ∀ (xs : List Tx) (t : Tx) (i : Nat), i ≤ xs.length → (∀ k, k < i → cmpS (xs.getD k ByteArray.empty) t < 0) → (∀ k, i ≤ k → k < xs.length → ¬ cmpS (xs.getD k ByteArray.empty) t < 0) → atN xs t = i
  | [], t, i, hi, _, _ => by have : i = 0 := by simpa using hi
                             subst this; rfl
  | x :: xs, t, 0, _, _, h2 => by
    unfold atN
    rw [List.countP_eq_zero]
    intro y hy
    obtain ⟨k, hk, rfl⟩ := List.getElem_of_mem hy
    have := h2 k (Nat.zero_le _) hk
    rw [getD_at hk] at this
    simpa using this
  | x :: xs, t, i + 1, hi, h1, h2 => by
    have hx := h1 0 (by omega)
    rw [getD_cons_zero] at hx
    have ih := atN_of xs t i (by simpa using hi) (fun k hk => h1 (k + 1) (by omega)) (fun k hk hk2 => h2 (k + 1) (by omega) (by simpa using hk2))
    unfold atN at ih ⊢
    rw [List.countP_cons_of_pos (by simpa using hx), ih]
theorem mem_at_iff {xs : List Tx} {t : Tx} (hs : SortedS xs) {i : Nat} (h1 : ∀ k, k < i → cmpS (xs.getD k ByteArray.empty) t < 0) (h2 : ∀ k, i ≤ k → k < xs.length → ¬ cmpS (xs.getD k ByteArray.empty) t < 0) : t ∈ xs ↔ i < xs.length ∧ cmpS (xs.getD i ByteArray.empty) t = 0 := by
  constructor
  · intro h
    obtain ⟨k, hk, e⟩ := List.getElem_of_mem h
    have e2 : xs.getD k ByteArray.empty = t := by rw [getD_at hk, e]
    have hik : i ≤ k := by
      apply Classical.byContradiction
      intro hn
      have := h1 k (by omega)
      rw [e2] at this
      exact cmpS_irrefl t this
    by_cases hlt : i < k
    · have := sorted_at hs hlt hk
      rw [e2] at this
      exact absurd this (h2 i (Nat.le_refl _) (by omega))
    · obtain rfl : i = k := by omega
      exact ⟨hk, by rw [e2, cmpS_same]⟩
  · rintro ⟨h, e⟩
    rw [← cmpS_zero.1 e, getD_at h]
    exact List.getElem_mem _
end Go.Proofs.YtbbholdadgjelaaGreat
/- graph: Build in one word; Next in one word -/
namespace Go.Proofs.YtbbholdadgjelaaGreat
open Go.RowKit
set_option linter.unusedVariables false
set_option maxRecDepth 20000
theorem ed_few {R : List (List Tx)} : ∀ (es : List EdP) (l : List Tx), EdOk R l es → es.length ≤ l.length
  | [], l, _ => Nat.zero_le _
  | e :: es, l, h => by
    have h1 := ed_few es _ h.2.2.2
    have h2 := (fol_len l h.1)
    rw [List.length_drop] at h1
    simp only [List.length_cons]; omega
theorem GOk.few {st : List GN} {ts : List Tx} (G : GOk st ts) : ∀ x ∈ st, x.edges.length ≤ 100 := fun x hx => by
  have h := G.nodes x hx
  have h1 := ed_few _ _ h.ed
  have h2 := bod_len x.rests
  have h3 := h.ok.n
  omega
theorem grS_ok {ts : List Tx} (h : goodV ts = 0) (hs : ∀ t ∈ ts, t.size ≤ 100) : GOk (grS ts) ts := graph_ok (ok_good h hs)
theorem grS_len {ts : List Tx} (h : goodV ts = 0) (hs : ∀ t ∈ ts, t.size ≤ 100) : (grS ts).length ≤ 2000 := by
  have h1 : (grS ts).length ≤ 0 + wtS ts + 1 := (reach_len 12 [] ts (ok_good h hs)).2.1
  have h2 := wt_good ts (ok_good h hs).hi
  have h3 := (ok_good h hs).n
  omega
theorem gFinal_c (n : Int) (v : Bool) {w0 : World} {g : Nat} {st : List GN} {S : Nat → Prop} (w : World) (c : CtxG w0 w g st S) (hv : finG st n = v) :
    Calls Tryz.prog 75 #[.pointer (some ⟨g, 0, none⟩), .int .i64 n] w fun e w' => e = .returned (.bool v) ∧ w = w' := by subst hv; exact gFinal_any g st S n w c.G
end Go.Proofs.YtbbholdadgjelaaGreat
/- pack: Of, of any words -/
namespace Go.Proofs.YtbbholdadgjelaaGreat
open Go.RowKit
set_option linter.unusedVariables false
set_option maxRecDepth 20000
theorem edB_len (e : EdP) : (edB e).length = 6 := by unfold edB; rw [List.length_append, Cod.bytesOf_length, Cod.bytesOf_length]
theorem eds_len : ∀ es : List EdP, (es.flatMap edB).length = 6 * es.length
  | [] => rfl
  | e :: es => by rw [List.flatMap_cons, List.length_append, edB_len, eds_len es, List.length_cons]; omega
theorem ndB_len (x : GN) : (ndB x).length = 3 + 6 * x.edges.length := by
  unfold ndB; rw [List.length_append, List.length_append, Cod.bytesOf_length, eds_len]; simp; omega
theorem nds_len : ∀ (st : List GN) (_ : ∀ x ∈ st, x.edges.length ≤ 100), (st.flatMap ndB).length ≤ 603 * st.length
  | [], _ => by simp
  | x :: l, h => by
    have h1 := nds_len l (fun y hy => h y (by simp [hy]))
    have h2 := h x (by simp)
    rw [List.flatMap_cons, List.length_append, ndB_len, List.length_cons]; omega
theorem bodyB_len {st : List GN} (h : ∀ x ∈ st, x.edges.length ≤ 100) (hl : st.length ≤ 800) : (bodyB st).length ≤ 524000 := by
  have := nds_len st h
  unfold bodyB
  rw [List.length_append, List.length_append, Cod.bytesOf_length]
  simp only [List.length_cons, List.length_nil]; omega
theorem grS_few {ts : List Tx} (h : goodV ts = 0) (hs : ∀ t ∈ ts, t.size ≤ 100) : (grS ts).length ≤ 721 := by
  have h1 : (grS ts).length ≤ 0 + wtS ts + 1 := (reach_len 12 [] ts (ok_good h hs)).2.1
  have h2 := wt_good ts (ok_good h hs).hi
  have h3 := (goodV_zero h).1
  omega
theorem fol_lab {l : List Tx} (h : l ≠ []) : (folS l).1 ≤ 2147483647 := by
  cases l with
  | nil => exact absurd rfl h
  | cons t l => exact decode_le t 0
theorem ed_runes {R : List (List Tx)} : ∀ (es : List EdP) (l : List Tx), EdOk R l es → ∀ e ∈ es, 0 ≤ e.r ∧ e.r ≤ 2147483647
  | [], _, _ => fun e h => by simp at h
  | e :: es, l, h => fun x hx => by
    rcases List.mem_cons.1 hx with rfl | hx
    · have h1 := fol_lab h.1
      rw [h.2.1]; omega
    · exact ed_runes es _ h.2.2.2 x hx
theorem GOk.runes {st : List GN} {ts : List Tx} (G : GOk st ts) : ∀ x ∈ st, ∀ e ∈ x.edges, 0 ≤ e.r ∧ e.r ≤ 2147483647 := fun x hx => ed_runes _ _ (G.nodes x hx).ed
theorem encode_of (g : Nat) (ts : List Tx) (S : Nat → Prop) (w : World) (h : GAt g (grS ts) w S) (hv : goodV ts = 0) (hs : ∀ t ∈ ts, t.size ≤ 100) :
    Calls Tryz.prog 57 #[.pointer (some ⟨g, 0, none⟩)] w (RetE w (imgB (grS ts))) := by
  have G := grS_ok hv hs
  have hl := grS_few hv hs
  exact encode_any g (grS ts) S w h (fun x hx => by have := G.few x hx; omega) G.runes (bodyB_len G.few (by omega)) (by omega)
theorem encode_nil (w : World) : Calls Tryz.prog 57 #[.pointer none] w fun e w' => e = .returned (.tuple #[.slice none 0 0, .int .i64 2]) ∧ w = w' := by
  go_enter Tryz.func57, Tryz.ntmps57
  go_wp2_with fail
  go_ret2
  exact ⟨rfl, rfl⟩
theorem pOf_good (a : Option Addr) (n cap : Nat) (ts : List Tx) (w : World) (hh : HoldsT w a n ts) (hc : n ≤ cap) (hn : n ≤ 9223372036854775807) (hs : ∀ t ∈ ts, t.size ≤ 100) (hv : goodV ts = 0) :
    Calls Tryz.prog 42 #[.slice a n cap] w (RetE w (imgB (grS ts))) := by
  have CB := Lib.hid (build_c (w0 := w) a n cap ts (grS ts) w (Below.refl _ _) hh hc hn hs hv rfl)
  have CE := Lib.hid (fun g S (w' : World) (h : GAt g (grS ts) w' S) => encode_of g ts S w' h hv hs)
  obtain ⟨o, ho⟩ : ∃ o, imgB (grS ts) = o := ⟨_, rfl⟩
  rw [ho] at CE ⊢
  clear hh hs hv ho
  go_enter Tryz.func42, Tryz.ntmps42
  go_wp2_with fail
  with_reducible refine CB.out.mono ?_
  rintro e w1 ⟨g, S, rfl, hC, hb⟩
  have C1 := Lib.hid (CE.out g S w1 hC.G)
  have B1 := Lib.hid hb
  clear hC hb CE CB
  go_wp2_with fail
  with_reducible refine C1.out.mono ?_
  rintro e w2 ⟨a2, c2, rfl, h1, h2, h3⟩
  have F := Lib.hid (show RetE w o (.returned (.tuple #[.slice a2 o.length c2, .int .i64 0])) w2 from
    ⟨a2, c2, rfl, base_less9 h1 B1.out.size, B1.out.trans (h2.mono B1.out.size), h3⟩)
  clear h1 h2 h3 C1
  go_wp2_with fail
  go_ret2
  exact F.out
theorem pOf_bad (a : Option Addr) (n cap : Nat) (ts : List Tx) (v : Int) (w : World) (hh : HoldsT w a n ts) (hn : n ≤ 9223372036854775807) (hs : ∀ t ∈ ts, t.size ≤ 9223372036854775807) (hv : goodV ts = v) (h0 : v ≠ 0) :
    Calls Tryz.prog 42 #[.slice a n cap] w fun e w' => e = .returned (.tuple #[.slice none 0 0, .int .i64 v]) ∧ Below w.heap.size w w' := by
  have CB := Lib.hid (build_bad a n cap ts v w hh hn hs hv h0)
  have e1 : (v != 0) = true := by simpa using h0
  clear hh hs hv h0
  go_enter Tryz.func42, Tryz.ntmps42
  go_wp2_with fail
  with_reducible refine CB.out.mono ?_
  rintro e w1 ⟨rfl, hb⟩
  have B1 := Lib.hid hb
  clear hb CB
  go_wp2_with fail
  go_ret2
  exact ⟨rfl, B1.out⟩
end Go.Proofs.YtbbholdadgjelaaGreat
/- pack: what is read of an image (plain) -/
namespace Go.Proofs.YtbbholdadgjelaaGreat
open Go.RowKit
set_option linter.unusedVariables false
set_option maxRecDepth 20000
def edP (e : EdP) : PE := (bitsV e.r % 4294967296, bitsV e.dst % 65536)
def pnG (x : GN) : PN := ⟨x.final, x.edges.map edP⟩
theorem rd_at {bs rest : List Nat} {at_ v s : Nat} (h0 : 0 < s) (h : bs.drop at_ = Cod.bytesOf v s ++ rest) : okR bs.length at_ s false = true ∧ numR bs bs.length at_ s false = v % 256 ^ s ∧ atR bs.length at_ s false = at_ + s ∧ bs.drop (at_ + s) = rest := by
  have hl := congrArg List.length h
  rw [List.length_drop, List.length_append, Cod.bytesOf_length] at hl
  have ok : okR bs.length at_ s false = true := by
    unfold okR
    rw [decide_eq_true (show at_ + s ≤ bs.length by omega)]; rfl
  refine ⟨ok, ?_, ?_, ?_⟩
  · unfold numR
    rw [if_pos ok]
    unfold numN
    rw [h, List.take_left' (Cod.bytesOf_length _ _), Cod.numOf_bytesOf]
  · unfold atR; rw [if_pos ok]
  · rw [← List.drop_drop, h, List.drop_left' (Cod.bytesOf_length _ _)]
theorem rdE_img {bs : List Nat} : ∀ (es : List EdP) (rest : List Nat) (at_ : Nat), bs.drop at_ = es.flatMap edB ++ rest → rdE bs bs.length es.length at_ false = (es.map edP, at_ + 6 * es.length, false) ∧ bs.drop (at_ + 6 * es.length) = rest
  | [], rest, at_, h => ⟨rfl, by simpa using h⟩
  | e :: es, rest, at_, h => by
    rw [List.flatMap_cons, List.append_assoc, show edB e = Cod.bytesOf (bitsV e.r) 4 ++ Cod.bytesOf (bitsV e.dst) 2 from rfl, List.append_assoc] at h
    obtain ⟨o1, n1, a1, d1⟩ := rd_at (by decide) h
    obtain ⟨o2, n2, a2, d2⟩ := rd_at (by decide) d1
    obtain ⟨ih1, ih2⟩ := rdE_img es rest _ d2
    have el : at_ + 6 * (es.length + 1) = at_ + 4 + 2 + 6 * es.length := by omega
    rw [List.length_cons, el]
    refine ⟨?_, ih2⟩
    simp only [rdE, o1, n1, a1, o2, n2, a2, Bool.not_true, Bool.false_eq_true, if_false, ih1]
    rfl
theorem finN_bytes (x : GN) : [finN x] = Cod.bytesOf (finN x) 1 := by unfold finN; split <;> rfl
theorem rdN_img {bs rest : List Nat} (x : GN) (hx : x.edges.length < 65536) (at_ : Nat) (h : bs.drop at_ = ndB x ++ rest) : rdN bs bs.length at_ false = (pnG x, at_ + (ndB x).length, false) ∧ bs.drop (at_ + (ndB x).length) = rest := by
  have h2 : bs.drop at_ = Cod.bytesOf (finN x) 1 ++ (Cod.bytesOf x.edges.length 2 ++ (x.edges.flatMap edB ++ rest)) := by
    rw [h, ← finN_bytes]; unfold ndB; simp only [List.append_assoc]
  obtain ⟨o1, n1, a1, d1⟩ := rd_at (by decide) h2
  obtain ⟨o2, n2, a2, d2⟩ := rd_at (by decide) d1
  have hm : x.edges.length % 256 ^ 2 = x.edges.length := Nat.mod_eq_of_lt (by omega)
  have hf : decide (finN x % 256 ^ 1 = 1) = x.final := by unfold finN; cases x.final <;> rfl
  obtain ⟨ih1, ih2⟩ := rdE_img x.edges rest _ d2
  have el : at_ + (ndB x).length = at_ + 1 + 2 + 6 * x.edges.length := by rw [ndB_len]; omega
  rw [el]
  refine ⟨?_, ih2⟩
  simp only [rdN, o1, n1, a1, o2, n2, a2, Bool.not_true, hm, hf, ih1]
  rfl
theorem rdL_img {bs : List Nat} : ∀ (st : List GN) (rest : List Nat) (at_ : Nat), (∀ x ∈ st, x.edges.length < 65536) → bs.drop at_ = st.flatMap ndB ++ rest → rdL bs bs.length st.length at_ = some (st.map pnG, at_ + (st.flatMap ndB).length) ∧ bs.drop (at_ + (st.flatMap ndB).length) = rest
  | [], rest, at_, _, h => ⟨rfl, by simpa using h⟩
  | x :: st, rest, at_, hs, h => by
    rw [List.flatMap_cons, List.append_assoc] at h
    obtain ⟨e1, d1⟩ := rdN_img x (hs x (by simp)) at_ h
    obtain ⟨ih1, ih2⟩ := rdL_img st rest _ (fun y hy => hs y (by simp [hy])) d1
    have el : at_ + ((x :: st).flatMap ndB).length = at_ + (ndB x).length + (st.flatMap ndB).length := by rw [List.flatMap_cons, List.length_append]; omega
    rw [el, List.length_cons]
    refine ⟨?_, ih2⟩
    simp only [rdL, e1, ih1, Bool.false_eq_true, if_false, Option.map_some]
    rfl
/-- what begins with a body tells the body's nodes, and how long it is -/
theorem body_tell {st : List GN} {rest : List Nat} (hl : st.length < 65536) (hs : ∀ x ∈ st, x.edges.length < 65536) {d : List Nat} (hd : d = (bodyB st ++ rest).drop 4) : okR d.length 0 2 false = true ∧ rdL d d.length (numR d d.length 0 2 false) 2 = some (st.map pnG, 2 + (st.flatMap ndB).length) ∧ d.drop (2 + (st.flatMap ndB).length) = rest := by
  have e : d.drop 0 = Cod.bytesOf st.length 2 ++ (st.flatMap ndB ++ rest) := by
    rw [hd]; unfold bodyB; simp
  obtain ⟨o1, n1, -, d1⟩ := rd_at (by decide) e
  rw [Nat.mod_eq_of_lt (show st.length < 256 ^ 2 by omega)] at n1
  obtain ⟨h1, h2⟩ := rdL_img st rest _ hs d1
  rw [n1]
  exact ⟨o1, h1, h2⟩
theorem readP_img {st : List GN} (hl : st.length < 65536) (hs : ∀ x ∈ st, x.edges.length < 65536) : readP (bodyB st) = some (st.map pnG) := by
  obtain ⟨d, hd⟩ : ∃ d, (bodyB st).drop 4 = d := ⟨_, rfl⟩
  obtain ⟨h1, h2, h3⟩ := body_tell (rest := []) hl hs (d := d) (by rw [List.append_nil, hd])
  have e1 : (bodyB st).take 4 = [73, 78, 75, 49] := by unfold bodyB; rfl
  have e2 : 2 + (st.flatMap ndB).length = d.length := by
    rw [← hd]; unfold bodyB; simp [Cod.bytesOf_length]
  unfold readP
  rw [if_pos e1, hd]
  simp only [h1, if_true, h2, e2]
/-- two bodies, one of which begins like the other with something behind, are as long -/
theorem body_cut {s1 s2 : List GN} {r1 r2 : List Nat} (h : bodyB s1 ++ r1 = bodyB s2 ++ r2) (l1 : s1.length < 65536) (l2 : s2.length < 65536) (e1 : ∀ x ∈ s1, x.edges.length < 65536) (e2 : ∀ x ∈ s2, x.edges.length < 65536) : r1 = r2 := by
  obtain ⟨d, hd⟩ : ∃ d, d = (bodyB s1 ++ r1).drop 4 := ⟨_, rfl⟩
  obtain ⟨-, a2, a3⟩ := body_tell l1 e1 hd
  obtain ⟨-, b2, b3⟩ := body_tell l2 e2 (hd.trans (by rw [h]))
  rw [a2] at b2
  injection b2 with b2
  injection b2 with b2 b4
  rw [← a3, ← b3, b4]
end Go.Proofs.YtbbholdadgjelaaGreat
/- a rune written and what is behind it: the text -/
namespace Go.Proofs.YtbbholdadgjelaaGreat
open Go.RowKit
set_option linter.unusedVariables false
set_option maxRecDepth 20000
theorem ue_decodeN_good (n b0 b1 b2 b3 : Nat) (hg : (Lib.decodeN n b0 b1 b2 b3).1 ≠ 65533) (h0 : b0 < 256) :
    ((Lib.decodeN n b0 b1 b2 b3).1 < 55296 ∨ 57343 < (Lib.decodeN n b0 b1 b2 b3).1) ∧ (Lib.decodeN n b0 b1 b2 b3).1 ≤ 1114111 := by
  unfold Lib.decodeN at *
  by_cases k0 : b0 < 128
  · rw [if_pos k0]; exact ⟨Or.inl (show b0 < 55296 by omega), (show b0 ≤ 1114111 by omega)⟩
  rw [if_neg k0] at hg ⊢
  by_cases k1 : b0 / 32 = 6 ∧ 1 < n ∧ b1 / 64 = 2
  · rw [if_pos k1] at hg ⊢
    by_cases h : b0 % 32 * 64 + b1 % 64 ≥ 128
    · rw [if_pos h]; exact ⟨Or.inl (show b0 % 32 * 64 + b1 % 64 < 55296 by omega), (show b0 % 32 * 64 + b1 % 64 ≤ 1114111 by omega)⟩
    · rw [if_neg h] at hg; exact absurd rfl hg
  rw [if_neg k1] at hg ⊢
  by_cases k2 : b0 / 16 = 14 ∧ (1 < n ∧ b1 / 64 = 2) ∧ 2 < n ∧ b2 / 64 = 2
  · rw [if_pos k2] at hg ⊢
    by_cases h : b0 % 16 * 4096 + b1 % 64 * 64 + b2 % 64 ≥ 2048 ∧ (b0 % 16 * 4096 + b1 % 64 * 64 + b2 % 64 < 55296 ∨ (57344 ≤ b0 % 16 * 4096 + b1 % 64 * 64 + b2 % 64 ∧ b0 % 16 * 4096 + b1 % 64 * 64 + b2 % 64 ≤ 1114111))
    · rw [if_pos h]
      refine ⟨?_, show b0 % 16 * 4096 + b1 % 64 * 64 + b2 % 64 ≤ 1114111 by omega⟩
      show b0 % 16 * 4096 + b1 % 64 * 64 + b2 % 64 < 55296 ∨ 57343 < b0 % 16 * 4096 + b1 % 64 * 64 + b2 % 64
      omega
    · rw [if_neg h] at hg; exact absurd rfl hg
  rw [if_neg k2] at hg ⊢
  by_cases k3 : b0 / 8 = 30 ∧ (1 < n ∧ b1 / 64 = 2) ∧ (2 < n ∧ b2 / 64 = 2) ∧ 3 < n ∧ b3 / 64 = 2
  · rw [if_pos k3] at hg ⊢
    by_cases h : b0 % 8 * 262144 + b1 % 64 * 4096 + b2 % 64 * 64 + b3 % 64 ≥ 65536 ∧ (b0 % 8 * 262144 + b1 % 64 * 4096 + b2 % 64 * 64 + b3 % 64 < 55296 ∨ (57344 ≤ b0 % 8 * 262144 + b1 % 64 * 4096 + b2 % 64 * 64 + b3 % 64 ∧ b0 % 8 * 262144 + b1 % 64 * 4096 + b2 % 64 * 64 + b3 % 64 ≤ 1114111))
    · rw [if_pos h]
      refine ⟨?_, show b0 % 8 * 262144 + b1 % 64 * 4096 + b2 % 64 * 64 + b3 % 64 ≤ 1114111 by omega⟩
      show b0 % 8 * 262144 + b1 % 64 * 4096 + b2 % 64 * 64 + b3 % 64 < 55296 ∨ 57343 < b0 % 8 * 262144 + b1 % 64 * 4096 + b2 % 64 * 64 + b3 % 64
      omega
    · rw [if_neg h] at hg; exact absurd rfl hg
  rw [if_neg k3] at hg
  exact absurd rfl hg
theorem ue_drop_byte (s : ByteArray) (j : Nat) (h : j < s.size) : s.toList.drop j = UInt8.ofNat (byteS s j) :: s.toList.drop (j + 1) := by
  obtain ⟨c, h1, h2⟩ := drop_at s j h
  rw [h1, ← h2, UInt8.ofNat_toNat]
theorem ue_bytes_list (s : ByteArray) (pos w : Nat) (h : pos + w ≤ s.size) (h1 : 1 ≤ w) (h4 : w ≤ 4) :
    (s.toList.drop pos).take w = ([byteS s pos, byteS s (pos + 1), byteS s (pos + 2), byteS s (pos + 3)].take w).map UInt8.ofNat := by
  have hw : w = 1 ∨ w = 2 ∨ w = 3 ∨ w = 4 := by omega
  rcases hw with rfl | rfl | rfl | rfl
  · rw [ue_drop_byte s pos (by omega)]; rfl
  · rw [ue_drop_byte s pos (by omega), ue_drop_byte s (pos + 1) (by omega)]; rfl
  · rw [ue_drop_byte s pos (by omega), ue_drop_byte s (pos + 1) (by omega), ue_drop_byte s (pos + 1 + 1) (by omega)]; rfl
  · rw [ue_drop_byte s pos (by omega), ue_drop_byte s (pos + 1) (by omega), ue_drop_byte s (pos + 1 + 1) (by omega), ue_drop_byte s (pos + 1 + 1 + 1) (by omega)]; rfl
theorem ue_enc_width {r w b0 b1 b2 b3 : Nat} (h : Enc r w b0 b1 b2 b3) : 1 ≤ w ∧ w ≤ 4 ∧ r ≤ 1114111 := by unfold Enc at h; omega
/-- a rune read well: its bytes -/
theorem ue_read_well (s : ByteArray) (pos : Nat) (h : pos < s.size) (hg : (Utf8.decode s pos).1 ≠ 65533) :
    Enc (Utf8.decode s pos).1 (Utf8.decode s pos).2 (byteS s pos) (byteS s (pos + 1)) (byteS s (pos + 2)) (byteS s (pos + 3)) ∧ ((Utf8.decode s pos).1 < 55296 ∨ 57343 < (Utf8.decode s pos).1) := by
  rw [decode_bytes] at hg ⊢
  exact ⟨decodeN_enc _ _ _ _ _ (byteS_lt _ _) hg, (ue_decodeN_good _ _ _ _ _ hg (byteS_lt _ _)).1⟩
theorem encode_enc (r w b0 b1 b2 b3 : Nat) (h : Enc r w b0 b1 b2 b3) (hs : r < 55296 ∨ 57343 < r) : (Utf8.encode (r : Int)).data.toList = ([b0, b1, b2, b3].take w).map UInt8.ofNat := by
  have hr : r ≤ 1114111 := (ue_enc_width h).2.2
  have hv : Utf8.valid (r : Int) = true := by
    unfold Utf8.valid
    simp only [Bool.or_eq_true, Bool.and_eq_true, decide_eq_true_eq]
    omega
  unfold Utf8.encode
  rw [if_pos hv]
  simp only [Int.toNat_natCast]
  rcases h with ⟨rfl, rfl, h⟩ | ⟨rfl, h0, h1, h2, h3⟩ | ⟨rfl, h0, h1, h2, h3, h4⟩ | ⟨rfl, h0, h1, h2, h3, h4, h5⟩
  · rw [if_pos (by omega)]; rfl
  · rw [if_neg (by omega), if_pos (by omega), h0, h1]; rfl
  · rw [if_neg (by omega), if_neg (by omega), if_pos (by omega), h0, h1, h2]; rfl
  · rw [if_neg (by omega), if_neg (by omega), if_neg (by omega), h0, h1, h2, h3]; rfl
theorem enc_rst {t : Tx} (h : 0 ≤ lenS t) (h0 : 0 < t.size) : Utf8.encode (labS t : Int) ++ rstS t = t := by
  obtain ⟨h1, h2, -⟩ := good_first h h0
  obtain ⟨e1, e2⟩ := ue_read_well t 0 h0 h1
  have hw := ue_enc_width e1
  have hx : Utf8.encode (labS t : Int) = t.extract 0 (Utf8.decode t 0).2 := by
    have hb := ue_bytes_list t 0 _ (by omega) hw.1 hw.2.1
    have he := encode_enc _ _ _ _ _ _ e1 e2
    rw [← hb, List.drop_zero, ByteArray.toList_eq] at he
    have hl : labS t = (Utf8.decode t 0).1 := rfl
    rw [hl]
    apply tx_ext
    rw [he]
    have hz := (extract_size t (Utf8.decode t 0).2 h2).1
    have hj : (t.extract 0 (Utf8.decode t 0).2 ++ rstS t).data.toList = t.data.toList := by rw [rst_split h h0]
    rw [show ∀ a b : ByteArray, (a ++ b).data.toList = a.data.toList ++ b.data.toList from fun a b => by simp] at hj
    rw [← hj]
    have hn : (t.extract 0 (Utf8.decode t 0).2).data.toList.length = (Utf8.decode t 0).2 := by rw [Array.length_toList]; exact hz
    exact List.take_left' hn
  rw [hx]
  exact rst_split h h0
end Go.Proofs.YtbbholdadgjelaaGreat
/- graph: the text of one rune -/
namespace Go.Proofs.YtbbholdadgjelaaGreat
open Go.RowKit
set_option linter.unusedVariables false
set_option maxRecDepth 20000
theorem ue_encode_list (r w b0 b1 b2 b3 : Nat) (h : Enc r w b0 b1 b2 b3) (hs : r < 55296 ∨ 57343 < r) : Lib.encodeRune (r : Int) = ([b0, b1, b2, b3].take w).map UInt8.ofNat := by
  unfold Lib.encodeRune
  rcases h with ⟨rfl, rfl, h⟩ | ⟨rfl, h0, h1, h2, h3⟩ | ⟨rfl, h0, h1, h2, h3, h4⟩ | ⟨rfl, h0, h1, h2, h3, h4, h5⟩
  · rw [Lib.encodeRuneZ_one (by omega) (by omega)]; rfl
  · rw [Lib.encodeRuneZ_two (by omega) (by omega)]
    have e0 : (192 + (r : Int) / 64).toNat = b0 := by omega
    have e1 : (128 + (r : Int) % 64).toNat = b1 := by omega
    simp only [List.map, e0, e1, List.take]
  · rw [Lib.encodeRuneZ_three (by omega)]
    have e0 : (224 + (r : Int) / 4096).toNat = b0 := by omega
    have e1 : (128 + (r : Int) / 64 % 64).toNat = b1 := by omega
    have e2 : (128 + (r : Int) % 64).toNat = b2 := by omega
    simp only [List.map, e0, e1, e2, List.take]
  · rw [Lib.encodeRuneZ_four (by omega) (by omega)]
    have e0 : (240 + (r : Int) / 262144).toNat = b0 := by omega
    have e1 : (128 + (r : Int) / 4096 % 64).toNat = b1 := by omega
    have e2 : (128 + (r : Int) / 64 % 64).toNat = b2 := by omega
    have e3 : (128 + (r : Int) % 64).toNat = b3 := by omega
    simp only [List.map, e0, e1, e2, e3, List.take]
/-- a first rune's text, and what is behind it -/
theorem text_rst {t : Tx} (h : 0 ≤ lenS t) (h0 : 0 < t.size) : textZ [(labS t : Int)] ++ rstS t = t := by
  obtain ⟨h1, h2, -⟩ := good_first h h0
  obtain ⟨e1, e2⟩ := ue_read_well t 0 h0 h1
  have hw := ue_enc_width e1
  have hl : labS t = (Utf8.decode t 0).1 := rfl
  have hg : allG [(labS t : Int)] := by
    intro z hz
    simp only [List.mem_singleton] at hz
    subst hz
    rw [hl]
    unfold goodP
    omega
  rw [(textZ_good hg).1]
  have he : encB [(labS t : Int)] = Utf8.encode (labS t : Int) := by
    rw [hl]
    apply tx_ext
    rw [encode_enc _ _ _ _ _ _ e1 e2, ← ue_encode_list _ _ _ _ _ _ e1 e2]
    simp [encB, encL]
  rw [he]
  exact enc_rst h h0
end Go.Proofs.YtbbholdadgjelaaGreat
/- pack: the words that an image's nodes tell (plain) -/
namespace Go.Proofs.YtbbholdadgjelaaGreat
open Go.RowKit
set_option linter.unusedVariables false
set_option maxRecDepth 20000
theorem lab_good {t : Tx} (h : 0 ≤ lenS t) (h0 : 0 < t.size) : allG [(labS t : Int)] := by
  obtain ⟨h1, h2, -⟩ := good_first h h0
  obtain ⟨e1, e2⟩ := ue_read_well t 0 h0 h1
  have hw := ue_enc_width e1
  have hl : labS t = (Utf8.decode t 0).1 := rfl
  intro z hz
  simp only [List.mem_singleton] at hz
  subst hz
  rw [hl]
  unfold goodP
  omega
theorem fol_lab9 {m : List Tx} (h : Run m) (h0 : m ≠ []) : allG [((folS m).1 : Int)] ∧ (folS m).1 ≤ 1114111 := by
  cases m with
  | nil => exact absurd rfl h0
  | cons t m =>
    have h1 : allG [((folS (t :: m)).1 : Int)] := lab_good (h.lo t (by simp)) (h.pos t (by simp))
    have h2 := h1 _ (List.mem_singleton.2 rfl)
    unfold goodP at h2
    exact ⟨h1, by omega⟩
theorem fol_map9 {l : List Tx} (h : Run l) (h0 : l ≠ []) (s : Tx) : (folS l).2.map (fun x => (s ++ textZ [((folS l).1 : Int)]) ++ x) = (l.take (folS l).2.length).map (fun x => s ++ x) := by
  obtain ⟨k, hk, h1, h2⟩ := fol_split h0
  rw [← hk, h2, List.map_map]
  refine List.map_congr_left fun u hu => ?_
  have hm : u ∈ l := List.mem_of_mem_take hu
  have hl : labS u = (folS l).1 := by
    rw [h1] at hu
    have h3 := mem_tw (p := fun t => decide (labS t = labS (l.getD 0 ByteArray.empty))) hu
    rw [show labS u = labS (l.getD 0 ByteArray.empty) from of_decide_eq_true h3]
    cases l with
    | nil => exact absurd rfl h0
    | cons a l => rfl
  show (s ++ textZ [((folS l).1 : Int)]) ++ rstS u = s ++ u
  rw [← hl, ByteArray.append_assoc, text_rst (h.lo u hm) (h.pos u hm)]
theorem bitsV_nat9 (n : Nat) (h : n < 9223372036854775808) : bitsV (n : Int) = n := by
  have := bitsV_eq (n : Int)
  simp only [IntKind.wrap, IntKind.signed, IntKind.bits] at this
  simp at this
  omega
theorem edP_ok {e : EdP} {x k : Nat} (h1 : e.r = (x : Int)) (hx : x ≤ 1114111) (h2 : e.dst = (k : Int)) (hk : k < 65536) : runeL (edP e).1 = (x : Int) ∧ (edP e).2 = k := by
  unfold edP runeL
  rw [h1, h2, bitsV_nat9 x (by omega), bitsV_nat9 k (by omega)]
  simp only
  rw [Nat.mod_eq_of_lt (show x < 4294967296 by omega), Nat.mod_eq_of_lt hk]
  refine ⟨?_, rfl⟩
  simp only [IntKind.wrap, IntKind.signed, IntKind.bits]
  simp
  omega
/-- the texts, each with what is ahead -/
def onto (pre : Tx) (l : List Tx) : List Tx := l.map (fun x => pre ++ x)
def FolAll (L : List PN) (R : List (List Tx)) (f : Nat) : Prop := ∀ (F k : Nat) (l : List Tx) (pre : Tx) (left : Nat) (ws : List Tx), f ≤ F → R[k]? = some l → OkL f l → wtS l + 1 ≤ left → ∃ c, c ≤ wtS l + 1 ∧ folF L (F + 1) k pre left ws = (true, left - c, ws ++ onto pre l)
theorem folE_img {L : List PN} {R : List (List Tx)} {f F : Nat} (IH : FolAll L R f) (hF : f ≤ F) (hR : R.length ≤ 65536) (pre : Tx) : ∀ (es : List EdP) (m : List Tx) (left : Nat) (ws : List Tx), EdOk R m es → Run m → OkL (f + 1) m → wtS m ≤ left → ∃ c, c ≤ wtS m ∧ folE (folF L (F + 1)) pre (es.map edP) left ws = (true, left - c, ws ++ onto pre m)
  | [], m, left, ws, h, _, _, _ => by
    obtain rfl : m = [] := h
    exact ⟨0, Nat.zero_le _, by simp [folE, onto]⟩
  | e :: es, m, left, ws, h, hm, ho, hw => by
    obtain ⟨h0, h1, ⟨k, h2, h3⟩, h4⟩ := h
    obtain ⟨g1, g2⟩ := fol_lab9 hm h0
    have hk := (List.getElem?_eq_some_iff.1 h3).1
    obtain ⟨x1, x2⟩ := edP_ok h1 g2 h2 (by omega)
    have wf := wt_fol h0 hm.lo hm.pos
    obtain ⟨c1, hc1, e1⟩ := IH F k (folS m).2 (pre ++ labT (edP e).1) left ws hF h3 (ho.fol hm.pos) (by omega)
    obtain ⟨c2, hc2, e2⟩ := folE_img IH hF hR pre es (m.drop (folS m).2.length) (left - c1) (ws ++ onto (pre ++ labT (edP e).1) (folS m).2) h4 (hm.drop _) (ho.drop _) (by omega)
    refine ⟨c1 + c2, by omega, ?_⟩
    rw [List.map_cons]
    unfold folE
    rw [x1, if_pos g1, x2, e1]
    simp only [if_true]
    rw [e2, Nat.sub_sub, List.append_assoc]
    have e3 : onto (pre ++ labT (edP e).1) (folS m).2 = onto pre (m.take (folS m).2.length) := by
      unfold onto labT
      rw [x1]
      exact fol_map9 hm h0 pre
    rw [e3]
    unfold onto
    rw [← List.map_append, List.take_append_drop]
theorem fin_split (l : List Tx) (pre : Tx) (ws : List Tx) : (if finS l then ws ++ [pre] else ws) ++ onto pre (bodS l) = ws ++ onto pre l := by
  unfold bodS
  split
  · rename_i h
    unfold finS at h
    cases l with
    | nil => simp at h
    | cons t l =>
      simp only [List.head?_cons, Option.some.injEq, decide_eq_true_eq] at h
      subst h
      have e : pre ++ (⟨#[]⟩ : ByteArray) = pre := by
        apply tx_ext; simp
      simp [onto, e]
  · rfl
theorem folF_go9 (L : List PN) (f n : Nat) (pre : Tx) (left : Nat) (ws : List Tx) (h : ¬ (L.length ≤ n ∨ left = 0)) : folF L (f + 1) n pre left ws = folE (folF L f) pre (L.getD n ⟨false, []⟩).es (left - 1) (if (L.getD n ⟨false, []⟩).fin then ws ++ [pre] else ws) := by
  conv => lhs; unfold folF
  rw [if_neg h]
theorem fol_img {st : List GN} {ts : List Tx} (G : GOk st ts) (hl : st.length ≤ 65536) : ∀ f, FolAll (st.map pnG) (restsG st) f := by
  intro f
  induction f with
  | zero =>
    intro F k l pre left ws hF hR hO hw
    obtain ⟨hk, hr, hN⟩ := G.node hR
    have hb := bod_none hO
    have he := hN.ed
    rw [hr, hb] at he
    have hes : (st.getD k gn0).edges = [] := by
      cases h : (st.getD k gn0).edges with
      | nil => rfl
      | cons e es => rw [h] at he; exact absurd rfl he.1
    have hg : (st.map pnG).getD k ⟨false, []⟩ = ⟨finS l, []⟩ := by
      rw [List.getD_eq_getElem?_getD, List.getElem?_map, List.getElem?_eq_getElem hk]
      have e : st[k] = st.getD k gn0 := by rw [List.getD_eq_getElem?_getD, List.getElem?_eq_getElem hk]; rfl
      rw [Option.map_some, Option.getD_some, e]
      unfold pnG
      rw [hes, hN.fin, hr]; rfl
    refine ⟨1, by omega, ?_⟩
    rw [folF_go9 _ _ _ _ _ _ (by rw [List.length_map]; omega), hg]
    have := fin_split l pre ws
    rw [hb] at this
    simp only [folE]
    rw [← this]
    simp [onto]
  | succ f IH =>
    intro F k l pre left ws hF hR hO hw
    obtain ⟨F', rfl⟩ : ∃ F', F = F' + 1 := ⟨F - 1, by omega⟩
    obtain ⟨hk, hr, hN⟩ := G.node hR
    have he := hN.ed
    rw [hr] at he
    have hg : (st.map pnG).getD k ⟨false, []⟩ = ⟨finS l, (st.getD k gn0).edges.map edP⟩ := by
      rw [List.getD_eq_getElem?_getD, List.getElem?_map, List.getElem?_eq_getElem hk]
      have e : st[k] = st.getD k gn0 := by rw [List.getD_eq_getElem?_getD, List.getElem?_eq_getElem hk]; rfl
      rw [Option.map_some, Option.getD_some, e]
      unfold pnG
      rw [hN.fin, hr]
    obtain ⟨c, hc, ec⟩ := folE_img (F := F') IH (by omega) (by unfold restsG; rw [List.length_map]; exact hl) pre (st.getD k gn0).edges (bodS l) (left - 1) (if finS l then ws ++ [pre] else ws) he hO.run hO.bod (by have := wt_bod l; omega)
    have := wt_bod l
    refine ⟨c + 1, by omega, ?_⟩
    rw [folF_go9 _ _ _ _ _ _ (by rw [List.length_map]; omega), hg]
    simp only
    rw [ec, fin_split, Nat.sub_sub, Nat.add_comm 1 c]
end Go.Proofs.YtbbholdadgjelaaGreat
/- pack: what Decode tells (plain) -/
namespace Go.Proofs.YtbbholdadgjelaaGreat
open Go.RowKit
set_option linter.unusedVariables false
set_option maxRecDepth 20000
def GoodE (es : List PE) : Prop := ∀ e ∈ es, e.1 < 4294967296 ∧ e.2 < 65536
theorem rdE_good (bs : List Nat) (hb : ∀ b ∈ bs, b < 256) : ∀ (k at_ : Nat) (bad : Bool), GoodE (rdE bs bs.length k at_ bad).1 ∧ (rdE bs bs.length k at_ bad).1.length ≤ k
  | 0, at_, bad => ⟨fun e he => (by cases he), Nat.le_refl _⟩
  | k + 1, at_, bad => by
    have h1 := numR_lt bs bs.length at_ 4 bad hb rfl
    have h2 := numR_lt bs bs.length (atR bs.length at_ 4 bad) 2 (!okR bs.length at_ 4 bad) hb rfl
    rw [rdE_succ]
    simp only
    split
    · exact ⟨fun e he => by
        rw [List.mem_singleton] at he; subst he; exact ⟨h1, h2⟩, by simp⟩
    · have ih := rdE_good bs hb k (atR bs.length (atR bs.length at_ 4 bad) 2 (!okR bs.length at_ 4 bad)) false
      refine ⟨fun e he => ?_, by simp only [List.length_cons]; omega⟩
      rcases List.mem_cons.1 he with rfl | he
      · exact ⟨h1, h2⟩
      · exact ih.1 e he
theorem rdN_good (bs : List Nat) (hb : ∀ b ∈ bs, b < 256) (at_ : Nat) (bad : Bool) : GoodE (rdN bs bs.length at_ bad).1.es ∧ (rdN bs bs.length at_ bad).1.es.length ≤ 65535 := by
  have h := rdE_good bs hb (numR bs bs.length (atR bs.length at_ 1 bad) 2 (!okR bs.length at_ 1 bad)) (atR bs.length (atR bs.length at_ 1 bad) 2 (!okR bs.length at_ 1 bad)) (!okR bs.length (atR bs.length at_ 1 bad) 2 (!okR bs.length at_ 1 bad))
  have h2 := numR_lt bs bs.length (atR bs.length at_ 1 bad) 2 (!okR bs.length at_ 1 bad) hb rfl
  have h3 : (256 : Nat) ^ 2 = 65536 := by decide
  exact ⟨h.1, Nat.le_trans h.2 (by omega)⟩
def GoodNs (L : List PN) : Prop := ∀ x ∈ L, GoodE x.es ∧ x.es.length ≤ 65535
theorem rdL_good (bs : List Nat) (hb : ∀ b ∈ bs, b < 256) : ∀ (k at_ : Nat) (L : List PN) (e : Nat), rdL bs bs.length k at_ = some (L, e) → GoodNs L ∧ L.length ≤ k
  | 0, at_, L, e, h => by
    simp only [rdL, Option.some.injEq, Prod.mk.injEq] at h
    obtain ⟨rfl, -⟩ := h
    exact ⟨fun x hx => (by cases hx), Nat.le_refl _⟩
  | k + 1, at_, L, e, h => by
    simp only [rdL] at h
    split at h
    · cases h
    · rw [Option.map_eq_some_iff] at h
      obtain ⟨⟨L', e'⟩, h1, h2⟩ := h
      injection h2 with h2 h3
      subst h2
      obtain ⟨i1, i2⟩ := rdL_good bs hb k _ L' e' h1
      refine ⟨fun x hx => ?_, by simp only [List.length_cons]; omega⟩
      rcases List.mem_cons.1 hx with rfl | hx
      · exact rdN_good bs hb at_ false
      · exact i1 x hx
theorem readP_good {body : List Nat} (hb : ∀ b ∈ body, b < 256) {L : List PN} (h : readP body = some L) : GoodNs L ∧ L.length ≤ 65535 := by
  unfold readP at h
  split at h
  · simp only at h
    split at h
    · have hd : ∀ b ∈ body.drop 4, b < 256 := fun b hm => hb b (List.mem_of_mem_drop hm)
      have hn := numR_lt (body.drop 4) (body.drop 4).length 0 2 false hd rfl
      split at h
      · rename_i L' k hL
        split at h
        · injection h with h
          subst h
          have h3 : (256 : Nat) ^ 2 = 65536 := by decide
          have := rdL_good _ hd _ _ _ _ hL
          exact ⟨this.1, by omega⟩
        · cases h
      · cases h
    · cases h
  · cases h
/-! how long the words are that nodes tell -/
theorem folE_size {rf : Nat → Tx → Nat → List Tx → Bool × Nat × List Tx} (hl : ∀ n pre left ws, (rf n pre left ws).2.1 ≤ left) (h : ∀ n pre left ws, ∀ t ∈ (rf n pre left ws).2.2, t ∈ ws ∨ t.size ≤ pre.size + 4 * left) (pre : Tx) : ∀ (es : List PE) (left : Nat) (ws : List Tx), ∀ t ∈ (folE rf pre es left ws).2.2, t ∈ ws ∨ t.size ≤ pre.size + 4 + 4 * left
  | [], left, ws => fun t ht => Or.inl ht
  | e :: es, left, ws => fun t ht => by
    have hs : (pre ++ labT e.1).size ≤ pre.size + 4 := by rw [ByteArray.size_append]; have := labT_size e.1; omega
    have hll := hl e.2 (pre ++ labT e.1) left ws
    have hh := h e.2 (pre ++ labT e.1) left ws
    unfold folE at ht
    split at ht
    · split at ht
      · rcases folE_size hl h pre es _ _ t ht with h1 | h1
        · rcases hh t h1 with h2 | h2
          · exact Or.inl h2
          · exact Or.inr (by omega)
        · exact Or.inr (by omega)
      · rcases hh t ht with h2 | h2
        · exact Or.inl h2
        · exact Or.inr (by omega)
    · exact Or.inl ht
theorem folF_size (L : List PN) : ∀ (f n : Nat) (pre : Tx) (left : Nat) (ws : List Tx), ∀ t ∈ (folF L f n pre left ws).2.2, t ∈ ws ∨ t.size ≤ pre.size + 4 * left
  | 0, n, pre, left, ws => fun t ht => Or.inl ht
  | f + 1, n, pre, left, ws => fun t ht => by
    unfold folF at ht
    split at ht
    · exact Or.inl ht
    · rename_i hc
      rcases folE_size (folF_left L f) (folF_size L f) pre _ _ _ t ht with h1 | h1
      · split at h1
        · rcases List.mem_append.1 h1 with h1 | h1
          · exact Or.inl h1
          · rw [List.mem_singleton] at h1; subst h1; exact Or.inr (by omega)
        · exact Or.inl h1
      · exact Or.inr (by omega)
theorem size_fourN9 : ∀ (n : Nat) (t : Tx), t.size ≤ n → 0 ≤ lenS t → (t.size : Int) ≤ 4 * lenS t
  | 0, t, h, h0 => by omega
  | n + 1, t, h, h0 => by
    rcases Nat.eq_zero_or_pos t.size with hz | hp
    · omega
    · have h1 := rst_size h0 hp
      have h2 := rst_len h0 hp
      have ih := size_fourN9 n (rstS t) (by omega) h2.1
      obtain ⟨g1, g2, -⟩ := good_first h0 hp
      obtain ⟨e1, e2⟩ := ue_read_well t 0 hp g1
      have hw := ue_enc_width e1
      omega
theorem good_sizes {ts : List Tx} (h : goodV ts = 0) : ∀ t ∈ ts, t.size ≤ 48 := fun t ht => by
  obtain ⟨h1, h2⟩ := (goodV_zero h).2.1 t ht
  have := size_fourN9 t.size t (Nat.le_refl _) (by omega)
  omega
/-- the words that nodes tell from the first on; none: they tell none -/
def wordsP (L : List PN) : Option (List Tx) := if (folF L 722 0 ⟨#[]⟩ 721 []).1 then some (folF L 722 0 ⟨#[]⟩ 721 []).2.2 else none
theorem wordsP_small {L : List PN} {ts : List Tx} (h : wordsP L = some ts) : ts.length ≤ 721 ∧ ∀ t ∈ ts, t.size ≤ 2884 := by
  unfold wordsP at h
  split at h
  · injection h with h
    subst h
    refine ⟨?_, fun t ht => ?_⟩
    · have := folF_few L 722 0 ⟨#[]⟩ 721 []
      simp only [List.length_nil] at this
      omega
    · rcases folF_size L 722 0 ⟨#[]⟩ 721 [] t ht with h1 | h1
      · cases h1
      · have e : (⟨#[]⟩ : ByteArray).size = 0 := rfl
        omega
  · cases h
theorem imgB_body (st : List GN) : (imgB st).take ((imgB st).length - 4) = bodyB st := by
  unfold imgB
  rw [sealB_len, Nat.add_sub_cancel]
  unfold sealB
  exact List.take_left' rfl
theorem grS_edges {ts : List Tx} (h : goodV ts = 0) : (grS ts).length ≤ 721 ∧ ∀ x ∈ grS ts, x.edges.length ≤ 100 :=
  ⟨grS_few h (fun t ht => by have := good_sizes h t ht; omega), (grS_ok h (fun t ht => by have := good_sizes h t ht; omega)).few⟩
theorem openB_img (st : List GN) : openB (imgB st) = true := by
  have hl : 4 ≤ (imgB st).length := by unfold imgB; rw [sealB_len]; omega
  unfold openB
  rw [imgB_body, decide_eq_true hl, Bool.true_and]
  refine decide_eq_true ?_
  unfold numN imgB
  rw [sealB_len, Nat.add_sub_cancel]
  unfold sealB
  rw [List.drop_left' rfl, List.take_of_length_le (by rw [Cod.bytesOf_length]; omega), Cod.numOf_bytesOf]
  exact Nat.mod_eq_of_lt (sum_lt9 _)
theorem onto_empty (l : List Tx) : onto ⟨#[]⟩ l = l := by
  unfold onto
  refine (List.map_congr_left fun t _ => ?_).trans (List.map_id l)
  apply tx_ext; simp
theorem wordsP_img {ts : List Tx} (h : goodV ts = 0) : readP (bodyB (grS ts)) = some ((grS ts).map pnG) ∧ wordsP ((grS ts).map pnG) = some ts := by
  have hs : ∀ t ∈ ts, t.size ≤ 100 := fun t ht => by have := good_sizes h t ht; omega
  obtain ⟨h1, h2⟩ := grS_edges h
  have G := grS_ok h hs
  have hO := ok_good h hs
  have hw : wtS ts ≤ 720 := by
    have h3 := wt_good ts hO.hi
    have := (goodV_zero h).1
    omega
  refine ⟨readP_img (by omega) (fun x hx => by have := h2 x hx; omega), ?_⟩
  obtain ⟨c, hc, e⟩ := fol_img G (by omega) 12 721 0 ts ⟨#[]⟩ 721 [] (by omega) G.root hO (by omega)
  unfold wordsP
  rw [e]
  simp [onto_empty]
/-- what Decode tells of any bytes -/
def decS (bs : List Nat) : Option (List Tx) :=
  if openB bs then
    match readP (bs.take (bs.length - 4)) with
    | some L =>
      match wordsP L with
      | some ts => if goodV ts = 0 ∧ imgB (grS ts) = bs then some ts else none
      | none => none
    | none => none
  else none
theorem decS_some {bs : List Nat} {ts : List Tx} (h : decS bs = some ts) : goodV ts = 0 ∧ imgB (grS ts) = bs := by
  unfold decS at h
  split at h
  · split at h
    · split at h
      · split at h
        · rename_i hx
          injection h with h
          subst h
          exact hx
        · cases h
      · cases h
    · cases h
  · cases h
theorem decS_img {ts : List Tx} (h : goodV ts = 0) : decS (imgB (grS ts)) = some ts := by
  obtain ⟨h1, h2⟩ := wordsP_img h
  unfold decS
  rw [openB_img, imgB_body, h1]
  simp [h2, h]
end Go.Proofs.YtbbholdadgjelaaGreat
/- pack: wordsOf -/
namespace Go.Proofs.YtbbholdadgjelaaGreat
open Go.RowKit
set_option linter.unusedVariables false
set_option maxRecDepth 20000
def WordsP (w : World) (x : Option (List Tx)) (e : Ending) (w' : World) : Prop := Below w.heap.size w w' ∧ match x with
  | some ts => ∃ wa wc, e = .returned (.tuple #[.slice wa ts.length wc, .bool true]) ∧ w'.ownsRow w.heap.size 9 1 (.slice wa ts.length wc) ts.length (strsV ts)
  | none => ∃ v, e = .returned (.tuple #[v, .bool false])
end Go.Proofs.YtbbholdadgjelaaGreat
/- pack: Decode -/
namespace Go.Proofs.YtbbholdadgjelaaGreat
open Go.RowKit
set_option linter.unusedVariables false
set_option maxRecDepth 20000
def DecP (w : World) (bs : List Nat) (e : Ending) (w' : World) : Prop := Below w.heap.size w w' ∧ match decS bs with
  | some ts => ∃ g S, e = .returned (.tuple #[.pointer (some ⟨g, 0, none⟩), .int .i64 0]) ∧ CtxG w w' g (grS ts) S
  | none => e = .returned (.tuple #[.pointer none, .int .i64 (if openB bs then 8 else 9)])
theorem decP_bad {w w' : World} {bs : List Nat} (hb : Below w.heap.size w w') (ho : openB bs = true) (hd : decS bs = none) : DecP w bs (.returned (.tuple #[.pointer none, .int .i64 8])) w' := by
  refine ⟨hb, ?_⟩
  rw [hd, ho]
  rfl
end Go.Proofs.YtbbholdadgjelaaGreat
/- contracts of the reference's code: bytes laid -/
namespace Go.Proofs.YtbbholdadgjelaaGreat
open Go.RowKit
set_option linter.unusedVariables false
set_option maxRecDepth 20000
set_option maxHeartbeats 800000 in
theorem rput_any (a : Option Addr) (n cap : Nat) (bs : List Nat) (v size : Int) (w : World) (h : HoldsB w a n bs) (hnil : a = none → n = 0 ∧ cap = 0) (hn : n ≤ 524288) :
    Calls Tryz.prog 80 #[.slice a n cap, .int .i64 v, .int .i64 size] w (RetB 5 w (bs ++ Cod.bytesOf (bitsV v) (sizeV size))) := by
  obtain ⟨i0, hi, hz0, hz1, hz2⟩ := info_parts u8_info
  have HN := Lib.hid hnil; have H := Lib.hid h; have HL := Lib.hid h.len; have HV := Lib.hid h.values
  have hb := bitsV_eq v
  clear h hnil
  obtain ⟨s, hs⟩ : ∃ s : Nat, sizeV size = s := ⟨_, rfl⟩
  have hs8 : s ≤ 8 := by unfold sizeV at hs; omega
  have HS := Lib.hid hs
  clear hs
  go_enter Tryz.func80, Tryz.ntmps80
  go_upto_region 3 with (at_builtin; refine wpList_append_any rfl (.const (.slice none 0 0)) (.tmp 10) 47 rfl w.heap.size 5 i0 (.int .u8 0) 1 1 Tryz.underlying47 hi hz0 hz1 hz2 rfl (by decide) _ 0 [] rfl (World.ownsRow_nil _ _ _ _) a n cap (bytesV bs) rfl HN.out (by simpa using HV.out.1) (HV.out.cells (World.grownBy.refl _ _)) (bytesV_one bs) (by unfold maxLen; omega) (by omega) (Nat.le_refl _) ?_; intro a1 c1 w1 hown1 hb1 hnil1; simp only [Nat.zero_add, List.nil_append] at hown1)
  have O1 := Lib.hid hown1; have B1 := Lib.hid hb1
  clear hown1 hb1 hnil1
  go_cut [9] (fun x wx => x = .int .i64 ((s : Int) - 1) ∧ w1 = wx)
  case first =>
    go_wp2_with fail
    all_goals go_meet
    all_goals exact ⟨by congr 1; have hs := HS.out; unfold sizeV at hs; omega, rfl⟩
  case rest =>
    obtain ⟨rfl, rfl⟩ := hcut
    go_wp2_with fail
    go_loopw [7, 9] (fun x i wr => ∃ (k : Nat) (a2 : Option Addr) (c2 : Nat), k ≤ s ∧ i = .int .i64 ((s : Int) - 1 - k) ∧ x = .slice a2 (n + k) c2 ∧ Hid (wr.ownsRow w.heap.size 5 1 (.slice a2 (n + k) c2) (n + k) (bytesV (bs ++ (Cod.bytesOf (bitsV v) s).take k))) ∧ Hid (Below w.heap.size w wr)) (fun _ i _ => (intOf i + 1).toNat)
    case atStart => exact ⟨0, a1, c1, by omega, by congr 1; omega, by rw [Nat.add_zero], by rw [List.take_zero, List.append_nil, Nat.add_zero]; exact O1, B1⟩
    case round =>
      obtain ⟨k, a2, c2, hk, rfl, rfl, hO, hB⟩ := hrel
      by_cases hlt : k < s
      · have ht := Cod.bytesOf_take (bitsV v) s k hlt
        have hby := byte_at (bitsV v) (s - 1 - k)
        have HT := Lib.hid ht; have HBY := Lib.hid hby
        clear ht hby
        have q1 : (8 * ((s : Int) - 1 - (k : Int))).toNat = 8 * (s - 1 - k) := by omega
        go_wp2_with (at_builtin; refine wpList_append_any rfl (.tmp 22) (.tmp 28) 47 rfl w.heap.size 5 i0 (.int .u8 0) 1 1 Tryz.underlying47 hi hz0 hz1 hz2 rfl (by decide) _ (n + k) _ rfl (hO.out.alloc _) _ 1 1 _ rfl (some_none _) rfl (one_new _ _ _ _) (one_int _ _) (by unfold maxLen; omega) (by omega) (by have := hB.out.size; simp; omega) ?_; intro a3 c3 w3 hown3 hb3 hnil3)
        have hv : bytesV (bs ++ List.take (k + 1) (Cod.bytesOf (bitsV v) s)) = bytesV (bs ++ List.take k (Cod.bytesOf (bitsV v) s)) ++ [Value.int .u8 ((bitsV v : Int) / 2 ^ (8 * (s - 1 - k)) % 256)] := by
          rw [HT.out, HBY.out, ← List.append_assoc, ← bytesV_append]; rfl
        go_roundw
        case rel => exact ⟨k + 1, a3, c3, by omega, by congr 1; omega, rfl, by rw [hv]; exact hown3, hB.out.trans ((below_one _ _).mono hB.out.size |>.trans hb3)⟩
        case measure => simp [intOf]; omega
      · have hks : k = s := by omega
        have hfin : bs ++ (Cod.bytesOf (bitsV v) s).take k = bs ++ Cod.bytesOf (bitsV v) s := by rw [List.take_of_length_le (by rw [Cod.bytesOf_length, hks]; exact Nat.le_refl _)]
        have hlen : (bs ++ Cod.bytesOf (bitsV v) s).length = n + k := by rw [List.length_append, HL.out, Cod.bytesOf_length, hks]
        have hO2 := hO.out
        rw [hfin] at hO2
        have HO2 := Lib.hid hO2; have HLL := Lib.hid hlen
        clear hks hfin hlen hO2
        go_wp2
        go_ret
        rw [HS.out]
        exact ⟨a2, c2, by rw [HLL.out]; rfl, by rw [HLL.out]; exact HO2.out, hB.out, by rw [HLL.out]; exact (owns_none HO2.out).1⟩
end Go.Proofs.YtbbholdadgjelaaGreat
/- contracts of code and of its reference: a text laid behind bytes -/
namespace Go.Proofs.YtbbholdadgjelaaGreat
open Go.RowKit
set_option linter.unusedVariables false
set_option maxRecDepth 20000
/-- what of a text is laid -/
def cutS (s : ByteArray) : ByteArray := s.extract 0 (min s.size 65535)
theorem cutS_size (s : ByteArray) : (cutS s).size = min s.size 65535 := by simp [cutS, ByteArray.size_extract]
theorem cutS_small (s : ByteArray) (h : s.size ≤ 65535) : cutS s = s := by
  unfold cutS; rw [Nat.min_eq_left h, ByteArray.extract_zero_size]
theorem cutS_great (s : ByteArray) (h : 65535 < s.size) : cutS s = s.extract 0 65535 := by
  unfold cutS; rw [Nat.min_eq_right (by omega)]
def putTextV (bs : List Nat) (s : ByteArray) : List Nat := bs ++ Cod.bytesOf (cutS s).size 2 ++ strB (cutS s)
theorem bitsV_nat (n : Nat) (h : n < 18446744073709551616) : bitsV (n : Int) = n := by
  unfold bitsV; simp only [IntKind.wrap, IntKind.signed, IntKind.bits]; simp; omega
end Go.Proofs.YtbbholdadgjelaaGreat
/- contract of the reference's code: a text laid behind bytes -/
namespace Go.Proofs.YtbbholdadgjelaaGreat
open Go.RowKit
set_option linter.unusedVariables false
set_option maxRecDepth 20000
end Go.Proofs.YtbbholdadgjelaaGreat
/- what every program answers that is one: code -/
namespace Go.Proofs.YtbbholdadgjelaaGreat
open Go.RowKit
set_option linter.unusedVariables false
set_option maxRecDepth 20000
theorem cast_inj (xs ys : List Nat) : (xs.map (fun b : Nat => (b : Int)) = ys.map fun b : Nat => (b : Int)) ↔ xs = ys := by
  constructor
  · intro h
    have := congrArg (List.map Int.toNat) h
    simpa [List.map_map, Function.comp_def] using this
  · rintro rfl; rfl
theorem sameB_any (a1 a2 : Option Addr) (n1 c1 n2 c2 : Nat) (x1 x2 : List Nat) (w : World) (h1 : HoldsB w a1 n1 x1) (h2 : HoldsB w a2 n2 x2) (hl1 : n1 ≤ 4611686018427387904) (hl2 : n2 ≤ 4611686018427387904) :
    Calls Tryz.prog 16 #[.slice a1 n1 c1, .slice a2 n2 c2] w fun e w' => e = .returned (.bool (decide (x1 = x2))) ∧ ∃ m, w' = w.drewN m :=
  (sameBytes_any a1 a2 n1 c1 n2 c2 _ _ w h1.1 h2.1 hl1 hl2).mono fun e w' ⟨he, hw⟩ => ⟨by rw [he]; congr 2; exact decide_eq_decide.2 (cast_inj x1 x2), hw⟩
theorem HoldsB.drewN {w : World} {a : Option Addr} {n : Nat} {bs : List Nat} (h : HoldsB w a n bs) (m : Nat) : HoldsB (w.drewN m) a n bs := h.below (below_drewN w m)
theorem HoldsB.alloc {w : World} {a : Option Addr} {n : Nat} {bs : List Nat} (h : HoldsB w a n bs) (o : Obj) : HoldsB (w.alloc o) a n bs := h.below (below_one w o)
theorem own_holdsB {w : World} {base : Nat} {e : TypeId} {a : Option Addr} {n c : Nat} {bs : List Nat} (h : w.ownsRow base e 1 (.slice a n c) n (bytesV bs)) (hb : ∀ b ∈ bs, b < 256) : HoldsB w a n bs := holdsB_of_values (owns_holds h) hb
end Go.Proofs.YtbbholdadgjelaaGreat
