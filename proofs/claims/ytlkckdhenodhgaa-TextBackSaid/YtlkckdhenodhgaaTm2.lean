/- contracts of the texts made of runes: the program's and the document's -/
import Derived.Test.YtlkckdhenodhgaaTm1
import Derived.Test.YtlkckdhenodhgaaTpB
namespace Go.Proofs.Ytlkckdhenodhgaa
open Go.RowKit
set_option linter.unusedVariables false
def encL (zs : List Int) : List UInt8 := zs.flatMap Lib.encodeRune
def encB (zs : List Int) : ByteArray := ⟨(encL zs).toArray⟩
def allG (zs : List Int) : Prop := ∀ z ∈ zs, goodP z
instance (zs : List Int) : Decidable (allG zs) := by unfold allG; infer_instance
def textZ (zs : List Int) : ByteArray := if allG zs then encB zs else ⟨#[]⟩
theorem encL_snoc (x : List Int) (r : Int) : encL (x ++ [r]) = encL x ++ Lib.encodeRune r := by simp [encL]
theorem encode_le (r : Int) : (Lib.encodeRune r).length ≤ 4 := by rw [← Lib.runeCells_length]; exact (Lib.runeCells_le r).2
theorem encL_le : ∀ zs : List Int, (encL zs).length ≤ 4 * zs.length
  | [] => by simp [encL]
  | z :: zs => by
    have h1 := encL_le zs
    have h2 := encode_le z
    have h3 : encL (z :: zs) = Lib.encodeRune z ++ encL zs := rfl
    rw [h3, List.length_append, List.length_cons]; omega
theorem encB_snoc (x : List Int) (r : Int) : encB x ++ encS r = encB (x ++ [r]) := by
  apply ByteArray.ext
  simp [encB, encS, encL_snoc]
theorem encB_size (zs : List Int) : (encB zs).size ≤ 4 * zs.length := by
  have := encL_le zs
  simpa [encB, ByteArray.size] using this
theorem byteCells_snoc (x : List Int) (r : Int) : Lib.byteCells (encL x) ++ Lib.runeCells r = Lib.byteCells (encL (x ++ [r])) := by
  rw [encL_snoc, Lib.byteCells_append, Lib.byteCells_encodeRune]
theorem textZ_bad {zs : List Int} (z : Int) (h : z ∈ zs) (hz : ¬ goodP z) : textZ zs = ⟨#[]⟩ ∧ decide (allG zs) = false := by
  have hn : ¬ allG zs := fun k => hz (k z h)
  exact ⟨if_neg hn, decide_eq_false hn⟩
theorem textZ_good {zs : List Int} (h : allG zs) : textZ zs = encB zs ∧ decide (allG zs) = true := ⟨if_pos h, decide_eq_true h⟩
theorem getD_mem' (zs : List Int) (j : Nat) (h : j < zs.length) : zs.getD j 0 ∈ zs := by
  rw [List.getD_eq_getElem?_getD, List.getElem?_eq_getElem h]; simp
set_option maxHeartbeats 1600000 in
theorem text_any (a : Option Addr) (n cap : Nat) (zs : List Int) (w : World) (hh : HoldsI .i32 w a n zs) (hn : n ≤ 1048576) (hr : ∀ z ∈ zs, -2147483648 ≤ z ∧ z ≤ 2147483647) :
    Calls Try.prog 24 #[.slice a n cap] w fun e w' => e = .returned (.tuple #[.string (textZ zs), .bool (decide (allG zs))]) ∧ Below w.heap.size w w' := by
  have hl := hh.len
  go_enter Try.func24, Try.ntmps24
  go_wp2_with fail
  go_loopw [9] (fun cv wr => ∃ j : Nat, j ≤ n ∧ cv = .int .i64 j ∧ Hid (allG (zs.take j)) ∧ Hid (Lib.IsBuilderF 46 5 w.heap.size w.heap.size (Lib.byteCells (encL (zs.take j))) wr) ∧ Hid (Below w.heap.size w wr)) (fun cv _ => n - (intOf cv).toNat)
  case atStart =>
    refine ⟨0, by omega, rfl, Lib.hid (by simp [allG]), Lib.hid (Lib.IsBuilderF.of (Lib.fresh_isBuilder _ _ w)), Lib.hid (below_one _ _)⟩
  case round =>
    obtain ⟨j, hj, rfl, hG, hI, hB⟩ := hrel
    have hs := hB.out.size
    by_cases hlt : j < n
    · obtain ⟨b, o, rfl, hc⟩ := (hh.below hB.out).at (by omega)
      have e1 := hc j hlt
      have hrj := hr _ (getD_mem' zs j (by omega))
      have hmem := getD_mem' zs j (by omega)
      have htk := take_succ_getD zs 0 j (by omega)
      obtain ⟨x, hx⟩ : ∃ x, zs.getD j 0 = x := ⟨_, rfl⟩
      rw [hx] at e1 hrj hmem htk
      have HM := Lib.hid hmem; have HT := Lib.hid htk
      clear hx hmem htk hc
      by_cases hbad : x = 65533
      · subst hbad
        have hb := textZ_bad 65533 HM.out (by unfold goodP; omega)
        have HB := Lib.hid hb
        clear hb
        go_wp2_with fail
        go_ret2
        exact ⟨by rw [HB.out.1, HB.out.2]; rfl, hB.out⟩
      · have hb : (x == 65533) = false := by rw [beq_eq_false_iff_ne]; exact hbad
        have HBD := Lib.hid hbad
        clear hbad
        by_cases hv : 0 ≤ x ∧ x ≤ 1114111 ∧ (x < 55296 ∨ 57343 < x)
        · have hval := fun w => valid_any x w
          rw [decide_eq_true hv] at hval
          have hg : goodP x := ⟨hv.1, hv.2.1, hv.2.2, HBD.out⟩
          have HG := Lib.hid hg; have HV := Lib.hid hval
          clear hv hval hg
          go_wp2_with fail
          refine (HV.out _).mono ?_
          rintro e w' ⟨rfl, rfl⟩
          go_wp2_with fail
          have hlen : (encL (zs.take j)).length ≤ 4 * j := by
            have h1 := encL_le (zs.take j)
            have h2 : (zs.take j).length ≤ j := List.length_take_le _ _
            omega
          refine (bwrite_any w.heap.size w.heap.size _ x hrj.1 hrj.2 _ hI.out (by rw [Lib.byteCells_length]; omega) hs).mono ?_
          rintro e w2 ⟨rfl, hb2, hb3⟩
          rw [byteCells_snoc, ← HT.out] at hb2
          go_wp2_with fail
          go_roundw
          case rel => exact ⟨j + 1, by omega, by go_num, Lib.hid (by rw [HT.out]; intro z hz; rcases List.mem_append.1 hz with hz | hz; exact hG.out z hz; simp at hz; rw [hz]; exact HG.out), Lib.hid (Or.inr hb2), Lib.hid (hB.out.trans hb3)⟩
          case measure => simp [intOf]; omega
        · have hval := fun w => valid_any x w
          rw [decide_eq_false hv] at hval
          have hb2 := textZ_bad x HM.out (fun k => hv ⟨k.1, k.2.1, k.2.2.1⟩)
          have HV := Lib.hid hval; have HB := Lib.hid hb2
          clear hv hval hb2
          go_wp2_with fail
          refine (HV.out _).mono ?_
          rintro e w' ⟨rfl, rfl⟩
          go_wp2_with fail
          go_ret2
          exact ⟨by rw [HB.out.1, HB.out.2]; rfl, hB.out⟩
    · have hjn : zs.take j = zs := List.take_of_length_le (by omega)
      have HJ := Lib.hid hjn
      clear hjn
      go_wp2_with fail
      refine (bstring_any w.heap.size w.heap.size _ _ hI.out hs).mono ?_
      rintro e w2 ⟨rfl, _, hb2, _⟩
      go_wp2_with fail
      go_ret2
      have hg := textZ_good (show allG zs by have := hG.out; rw [HJ.out] at this; exact this)
      exact ⟨by rw [hg.1, hg.2, HJ.out]; rfl, hB.out.trans hb2⟩
set_option maxHeartbeats 1600000 in
theorem rtext_any (a : Option Addr) (n cap : Nat) (zs : List Int) (w : World) (hh : HoldsI .i32 w a n zs) (hn : n ≤ 1048576) :
    Calls Try.prog 25 #[.slice a n cap] w fun e w' => e = .returned (.tuple #[.string (textZ zs), .bool (decide (allG zs))]) ∧ Below w.heap.size w w' := by
  have hl := hh.len
  go_enter Try.func25, Try.ntmps25
  go_wp2_with fail
  go_loopw [4, 5] (fun sv cv wr => ∃ j : Nat, j ≤ n ∧ cv = .int .i64 j ∧ sv = .string (encB (zs.take j)) ∧ Hid (allG (zs.take j)) ∧ Hid (Below w.heap.size w wr)) (fun _ cv _ => n - (intOf cv).toNat)
  case atStart =>
    refine ⟨0, by omega, rfl, rfl, Lib.hid (by simp [allG]), Lib.hid (Below.refl _ _)⟩
  case round =>
    obtain ⟨j, hj, rfl, rfl, hG, hB⟩ := hrel
    have hs := hB.out.size
    by_cases hlt : j < n
    · obtain ⟨b, o, rfl, hc⟩ := (hh.below hB.out).at (by omega)
      have H2 := Lib.hid (fun w2 (hb : Below wr.heap.size wr w2) => ((hh.below hB.out).below hb))
      have e1 := hc j hlt
      have hmem := getD_mem' zs j (by omega)
      have htk := take_succ_getD zs 0 j (by omega)
      obtain ⟨x, hx⟩ : ∃ x, zs.getD j 0 = x := ⟨_, rfl⟩
      rw [hx] at e1 hmem htk
      have HM := Lib.hid hmem; have HT := Lib.hid htk
      clear hx hmem htk hc
      have hgd := fun w => good_any x w
      by_cases hg : goodP x
      · rw [decide_eq_true hg] at hgd
        have HG := Lib.hid hg; have HD := Lib.hid hgd
        clear hg hgd
        have hsz : (encB (zs.take j)).size ≤ 4194304 := by
          have h1 := encB_size (zs.take j)
          have h2 : (zs.take j).length ≤ j := List.length_take_le _ _
          omega
        obtain ⟨S, hS⟩ : ∃ S, encB (zs.take j) = S := ⟨_, rfl⟩
        rw [hS] at hsz ⊢
        have HS := Lib.hid hS
        clear hS
        go_wp2_with fail
        refine (HD.out _).mono ?_
        rintro e w' ⟨rfl, rfl⟩
        go_wp2_with fail
        refine (bytes_any x _ HG.out).mono ?_
        rintro e w2 ⟨rfl, hb2⟩
        have hes : S ++ encS x = encB (zs.take (j + 1)) := by rw [← HS.out, encB_snoc, HT.out]
        have hsz2 : (encS x).size ≤ 4 := by
          have h1 := encode_le x
          simpa [encS, ByteArray.size] using h1
        go_wp2_with fail
        go_roundw
        case rel => exact ⟨j + 1, by omega, by go_num, rfl, Lib.hid (by rw [HT.out]; intro z hz; rcases List.mem_append.1 hz with hz | hz; exact hG.out z hz; simp at hz; rw [hz]; exact HG.out), Lib.hid (hB.out.trans (hb2.mono hs))⟩
        case measure => simp [intOf]; omega
      · rw [decide_eq_false hg] at hgd
        have hb2 := textZ_bad x HM.out hg
        have HD := Lib.hid hgd; have HB := Lib.hid hb2
        clear hg hgd hb2
        go_wp2_with fail
        refine (HD.out _).mono ?_
        rintro e w' ⟨rfl, rfl⟩
        go_wp2_with fail
        go_ret2
        exact ⟨by rw [HB.out.1, HB.out.2]; rfl, hB.out⟩
    · have hjn : zs.take j = zs := List.take_of_length_le (by omega)
      have hg := textZ_good (show allG zs by have := hG.out; rw [hjn] at this; exact this)
      have HJ := Lib.hid hjn; have HG := Lib.hid hg
      clear hjn hg
      go_wp2_with fail
      go_ret2
      exact ⟨by rw [HG.out.1, HG.out.2, HJ.out]; rfl, hB.out⟩
end Go.Proofs.Ytlkckdhenodhgaa
