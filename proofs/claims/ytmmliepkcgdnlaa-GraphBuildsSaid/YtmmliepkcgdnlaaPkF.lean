/- texts joined -/
import Derived.Shelf.Strings.Builder1
import Derived.Shelf.Strings.BuilderK
import Derived.Shelf.Strings.BuilderRune
import Derived.Shelf.Utf8.AppendRune
import Derived.Test.YtmmliepkcgdnlaaChecked
import Derived.WalkLawsBesides
import Derived.Outline
import Derived.Test.YtmmliepkcgdnlaaPkA
import Derived.Lib.RuneBytes
import Derived.Test.YtmmliepkcgdnlaaPkE
import Derived.Deep.AppendLies
/- the library's Builder at this seat: WriteRune, String -/
namespace Go.Proofs.Ytmmliepkcgdnlaa
open Go.Shelf Go.RowKit
def Try.lays169_ren : Go.Shelf.Ren := ⟨fun | 169 => 62 | n => n, fun | 70 => 88 | 9 => 9 | 0 => 0 | 72 => 91 | 37 => 89 | 127 => 105 | 3 => 3 | 5 => 5 | n => n, fun | n => n⟩
theorem Try.lays169 : Go.Proofs.Lays.n169 Try.prog Try.lays169_ren := {
  mixed := by kernel_rfl
  f169 := Try.func62.trans (congrArg some (by kernel_rfl))
  t0 := Try.underlying0
  a0 := Try.isAgg0
  z0 := Try.sizeOf0
  v0 := Try.zeroValue0
  t3 := Try.underlying3
  a3 := Try.isAgg3
  z3 := Try.sizeOf3
  v3 := Try.zeroValue3
  t9 := Try.underlying9
  a9 := Try.isAgg9
  z9 := Try.sizeOf9
  v9 := Try.zeroValue9
  t37 := Try.underlying89
  a37 := Try.isAgg89
  z37 := Try.sizeOf89
  v37 := Try.zeroValue89
  t70 := Try.underlying88
  a70 := Try.isAgg88
  z70 := Try.sizeOf88
  v70 := Try.zeroValue88
  t72 := Try.underlying91
  a72 := Try.isAgg91
  z72 := Try.sizeOf91
  v72 := Try.zeroValue91
  t127 := Try.underlying105
  a127 := Try.isAgg105
  z127 := Try.sizeOf105
  v127 := Try.zeroValue105 }
theorem Try.Builder_Extra_169 : Builder.Extra Try.prog Try.lays169_ren := {
  sizeBuilder := by kernel_rfl
  liesBuilder := by kernel_rfl
  t5 := Try.underlying5
  a5 := Try.isAgg5
  z5 := Try.sizeOf5
  v5 := Try.zeroValue5
  infoByte := by kernel_rfl
  cellsByte := by kernel_rfl
  sizeByte := by kernel_rfl
  neB5 := by decide }
theorem bstring_any (B b : Nat) (l : List UInt8) (w : World) (h : Lib.IsBuilderF 91 5 B b (Lib.byteCells l) w) (hBw : B ≤ w.heap.size) :
    Calls Try.prog 62 #[.pointer (some ⟨b, 0, none⟩)] w fun e w' => e = .returned (.string ⟨l.toArray⟩) ∧ (Lib.IsBuilderF 91 5 B b (Lib.byteCells l) w' ∧ Below B w w' ∧ Lib.OthersKept 5 (some b) w w') := Any.Builder_String_any_k Try.lays169 Try.Builder_Extra_169 B b l w h hBw
def Try.lays242_ren : Go.Shelf.Ren := ⟨fun | 242 => 72 | 278 => 86 | n => n, fun | 37 => 89 | 21 => 21 | 51 => 114 | 4 => 4 | 5 => 5 | 46 => 81 | n => n, fun | n => n⟩
theorem Try.lays242 : Go.Proofs.Lays.n242 Try.prog Try.lays242_ren := {
  mixed := by kernel_rfl
  f242 := Try.func72.trans (congrArg some (by kernel_rfl))
  f278 := Try.func86.trans (congrArg some (by kernel_rfl))
  t4 := Try.underlying4
  a4 := Try.isAgg4
  z4 := Try.sizeOf4
  v4 := Try.zeroValue4
  t5 := Try.underlying5
  a5 := Try.isAgg5
  z5 := Try.sizeOf5
  v5 := Try.zeroValue5
  t21 := Try.underlying21
  a21 := Try.isAgg21
  z21 := Try.sizeOf21
  v21 := Try.zeroValue21
  t37 := Try.underlying89
  a37 := Try.isAgg89
  z37 := Try.sizeOf89
  v37 := Try.zeroValue89
  t46 := Try.underlying81
  a46 := Try.isAgg81
  z46 := Try.sizeOf81
  v46 := Try.zeroValue81
  t51 := Try.underlying114
  a51 := Try.isAgg114
  z51 := Try.sizeOf114
  v51 := Try.zeroValue114 }
theorem appendRune_any (B : Nat) (v : Value) (n : Nat) (xs : List Value) (r : Int) (hr0 : -2147483648 ≤ r) (hr1 : r ≤ 2147483647) (w : World) (hown : w.ownsRowF B 5 1 v n xs) (hlen : n + 4 ≤ 140737488355328) (hBw : B ≤ w.heap.size) :
    Calls Try.prog 72 #[v, .int .i32 r] w fun e w' => ∃ v', e = .returned v' ∧ w'.ownsRowF B 5 1 v' (n + (Lib.runeCells r).length) (xs ++ Lib.runeCells r) ∧ ∃ o, (w.alloc o).grownBy w' v.ownBlock :=
  Any.utf8_AppendRune_row Try.lays242 (by kernel_rfl) B v n xs r hr0 hr1 w hown hlen hBw
theorem builder_size : (Try.prog.info? 91).map (·.size) = some 2 := by kernel_rfl
set_option maxHeartbeats 1000000 in
theorem copyCheck_used (b : Nat) (w : World) (h0 : w.cell? ⟨b, 0, none⟩ = some (.pointer (some ⟨b, 0, none⟩))) :
    Calls Try.prog 71 #[.pointer (some ⟨b, 0, none⟩)] w fun e w' => e = .returned (.tuple #[]) ∧ w' = w := by
  obtain ⟨j, hj, _⟩ := Option.map_eq_some_iff.1 builder_size
  have hq := Lib.run_neq_ptr_same (P := Try.prog) (w := w) ⟨b, 0, none⟩ Try.underlying88 hj
  go_enter Try.func71, Try.ntmps71
  go_wp2
  go_end0
  exact ⟨rfl, rfl⟩
set_option maxHeartbeats 1000000 in
theorem copyCheck_fresh (b : Nat) (w : World) (h0 : w.cell? ⟨b, 0, none⟩ = some (.pointer none)) (hsh : w.shape? b = some (91, 2)) (hfz : w.frozen? ⟨b, 0, none⟩ = false) :
    Calls Try.prog 71 #[.pointer (some ⟨b, 0, none⟩)] w fun e w' => e = .returned (.tuple #[]) ∧ w' = w.setCell ⟨b, 0, none⟩ (.pointer (some ⟨b, 0, none⟩)) := by
  obtain ⟨j, hj, hjs⟩ := Option.map_eq_some_iff.1 builder_size
  have c1 := Lib.run_to_unsafe (P := Try.prog) w ⟨b, 0, none⟩ Try.underlying88 Try.underlying120 hj (by rw [hjs]; decide) hsh (Nat.zero_lt_succ 1)
  have c2 := Lib.run_from_unsafe (P := Try.prog) w ⟨b, 0, none⟩ Try.underlying120 Try.underlying88 hj hsh (by kernel_rfl)
  have c3 := run_callFunc_extern (P := Try.prog) Try.func85 (by kernel_rfl) (by kernel_rfl) (by kernel_rfl) (e := Extern.AbiNoEscape.same) (by kernel_rfl) #[.pointer (some ⟨b, 0, none⟩)] w
  rw [Lib.run_noEscape] at c3
  simp only [Result.andThen] at c3
  go_enter Try.func71, Try.ntmps71
  go_wp2
  go_end0
  exact ⟨rfl, rfl⟩
theorem copyCheck_any (B b : Nat) (bs : List Value) (w : World) (h : Lib.IsBuilderF 91 5 B b bs w) :
    Calls Try.prog 71 #[.pointer (some ⟨b, 0, none⟩)] w fun e w' => e = .returned (.tuple #[]) ∧ (Lib.BuilderAtF 91 5 B b (.pointer (some ⟨b, 0, none⟩)) bs w' ∧ Below B w w') := by
  rcases h with h | h
  · refine (copyCheck_fresh b w h.cell0 h.shape h.frozen0).mono ?_
    rintro e w' ⟨rfl, rfl⟩
    exact ⟨rfl, h.used _, (Below.refl B w).setCell (p := ⟨b, 0, none⟩) h.1 _⟩
  · refine (copyCheck_used b w h.cell0).mono ?_
    rintro e w' ⟨rfl, rfl⟩
    exact ⟨rfl, h, Below.refl B _⟩
set_option maxHeartbeats 4000000 in
theorem bwrite_any (B b : Nat) (bs : List Value) (r : Int) (hr0 : -2147483648 ≤ r) (hr1 : r ≤ 2147483647) (w : World) (h : Lib.IsBuilderF 91 5 B b bs w) (hlen : bs.length + 4 ≤ 140737488355328) (hBw : B ≤ w.heap.size) :
    Calls Try.prog 61 #[.pointer (some ⟨b, 0, none⟩), .int .i32 r] w fun e w' => e = .returned (.tuple #[.int .i64 (Lib.runeCells r).length, .nilIface]) ∧ (Lib.BuilderAtF 91 5 B b (.pointer (some ⟨b, 0, none⟩)) (bs ++ Lib.runeCells r) w' ∧ Below B w w') := by
  have hk4 := Lib.runeCells_le r
  go_enter Try.func61, Try.ntmps61
  go_wp2_with fail
  refine (copyCheck_any B b bs _ h).mono ?_
  rintro e w1 ⟨rfl, h1, hb1⟩
  obtain ⟨hB, v, hbk, hown, hne⟩ := h1
  obtain ⟨ao, cap, rfl⟩ : ∃ ao cap, v = .slice ao bs.length cap := by
    rcases hown.2 with ⟨hv, h0⟩ | ⟨g, cap, cur, fz, hv, _⟩
    · exact ⟨none, 0, by rw [hv, h0]⟩
    · exact ⟨_, _, hv⟩
  have c0 : w1.cell? ⟨b, 0, none⟩ = some (.pointer (some ⟨b, 0, none⟩)) := by rw [Lib.cell_of_heap hbk]; rfl
  have c1 : w1.cell? ⟨b, 1, none⟩ = some (.slice ao bs.length cap) := by rw [Lib.cell_of_heap hbk]; rfl
  go_wp2_with (go_at_call 72; refine (appendRune_any B _ bs.length bs r hr0 hr1 _ hown hlen (by have := hb1.size; omega)).mono ?_)
  rintro e w2 ⟨v', rfl, hown', o, hgrow⟩
  have hlt : b < w1.heap.size := by
    rcases Nat.lt_or_ge b w1.heap.size with h' | h'
    · exact h'
    · simp [Array.getElem?_eq_none h'] at hbk
  have hb2 : w2.heap[b]? = some (.cells #[.pointer (some ⟨b, 0, none⟩), .slice ao bs.length cap] 91 (0, 0)) := by
    rw [hgrow.block b (by simp; omega) (fun e => hne e.symm), Lib.alloc_old w1 _ b hlt]
    exact hbk
  have d0 : w2.cell? ⟨b, 0, none⟩ = some (.pointer (some ⟨b, 0, none⟩)) := by rw [Lib.cell_of_heap hb2]; rfl
  have d1 : w2.cell? ⟨b, 1, none⟩ = some (.slice ao bs.length cap) := by rw [Lib.cell_of_heap hb2]; rfl
  have f1 : w2.frozen? ⟨b, 1, none⟩ = false := Lib.frozen_of_heap hb2 1
  obtain ⟨g, cap', rfl⟩ : ∃ g cap', v' = .slice (some ⟨g, 0, none⟩) (bs.length + (Lib.runeCells r).length) cap' := by
    rcases hown'.2 with ⟨_, h0⟩ | ⟨g, cap', cur, fz, hv, _⟩
    · omega
    · exact ⟨g, cap', hv⟩
  go_wp2
  go_ret2
  refine ⟨?_, ?_, ?_⟩
  · have e : ((bs.length : Int) + ((Lib.runeCells r).length : Int) - (bs.length : Int)) = ((Lib.runeCells r).length : Int) := by omega
    simp [e]
  · exact Lib.BuilderAtF.put (T := 91) (e := 5) hB hb2 (bs' := bs ++ Lib.runeCells r) (by simpa using hown') (by decide)
  · exact ((hb1.alloc (by have := hb1.size; omega) _).grown hgrow (by have := hb1.size; simp; omega) (fun k hk => (hown.lt k hk).1)).setCell (p := ⟨b, 1, none⟩) hB _
end Go.Proofs.Ytmmliepkcgdnlaa
/- text.Text: the program's (split from Tm1, Tm2) -/
namespace Go.Proofs.Ytmmliepkcgdnlaa
open Go.RowKit
set_option linter.unusedVariables false
set_option maxRecDepth 20000
def encS (r : Int) : ByteArray := ⟨(Lib.encodeRune r).toArray⟩
theorem valid_any (r : Int) (w : World) : Calls Try.prog 60 #[.int .i32 r] w fun e w' => e = .returned (.bool (decide (0 ≤ r ∧ r ≤ 1114111 ∧ (r < 55296 ∨ 57343 < r)))) ∧ w = w' := by
  have hc : r < 0 ∨ (0 ≤ r ∧ r < 55296) ∨ (55296 ≤ r ∧ r ≤ 57343) ∨ (57343 < r ∧ r ≤ 1114111) ∨ 1114111 < r := by omega
  rcases hc with h | h | h | h | h
  · rw [decide_eq_false (by omega)]
    go_enter Try.func60, Try.ntmps60
    go_wp2
    go_ret
    exact ⟨rfl, rfl⟩
  · rw [decide_eq_true (by omega)]
    go_enter Try.func60, Try.ntmps60
    go_wp2
    go_ret
    exact ⟨rfl, rfl⟩
  · rw [decide_eq_false (by omega)]
    go_enter Try.func60, Try.ntmps60
    go_wp2
    go_ret
    exact ⟨rfl, rfl⟩
  · rw [decide_eq_true (by omega)]
    go_enter Try.func60, Try.ntmps60
    go_wp2
    go_ret
    exact ⟨rfl, rfl⟩
  · rw [decide_eq_false (by omega)]
    go_enter Try.func60, Try.ntmps60
    go_wp2
    go_ret
    exact ⟨rfl, rfl⟩
def encL (zs : List Int) : List UInt8 := zs.flatMap Lib.encodeRune
def encB (zs : List Int) : ByteArray := ⟨(encL zs).toArray⟩
def allG (zs : List Int) : Prop := ∀ z ∈ zs, goodP z
instance (zs : List Int) : Decidable (allG zs) := by unfold allG; infer_instance
def textZ (zs : List Int) : ByteArray := if allG zs then encB zs else ⟨#[]⟩
theorem encL_snoc (x : List Int) (r : Int) : encL (x ++ [r]) = encL x ++ Lib.encodeRune r := by simp [encL]
theorem encode_le (r : Int) : (Lib.encodeRune r).length ≤ 4 := by rw [← Lib.runeCells_length]; exact (Lib.runeCells_le r).2
theorem encL_le : ∀ zs : List Int, (encL zs).length ≤ 4 * zs.length
  | [] => by simp [encL]
  | z :: zs => by
    have h1 := encL_le zs
    have h2 := encode_le z
    have h3 : encL (z :: zs) = Lib.encodeRune z ++ encL zs := rfl
    rw [h3, List.length_append, List.length_cons]; omega
theorem encB_snoc (x : List Int) (r : Int) : encB x ++ encS r = encB (x ++ [r]) := by
  apply ByteArray.ext
  simp [encB, encS, encL_snoc]
theorem encB_size (zs : List Int) : (encB zs).size ≤ 4 * zs.length := by
  have := encL_le zs
  simpa [encB, ByteArray.size] using this
theorem byteCells_snoc (x : List Int) (r : Int) : Lib.byteCells (encL x) ++ Lib.runeCells r = Lib.byteCells (encL (x ++ [r])) := by
  rw [encL_snoc, Lib.byteCells_append, Lib.byteCells_encodeRune]
theorem textZ_bad {zs : List Int} (z : Int) (h : z ∈ zs) (hz : ¬ goodP z) : textZ zs = ⟨#[]⟩ ∧ decide (allG zs) = false := by
  have hn : ¬ allG zs := fun k => hz (k z h)
  exact ⟨if_neg hn, decide_eq_false hn⟩
theorem textZ_good {zs : List Int} (h : allG zs) : textZ zs = encB zs ∧ decide (allG zs) = true := ⟨if_pos h, decide_eq_true h⟩
theorem getD_mem' (zs : List Int) (j : Nat) (h : j < zs.length) : zs.getD j 0 ∈ zs := by
  rw [List.getD_eq_getElem?_getD, List.getElem?_eq_getElem h]; simp
set_option maxHeartbeats 1600000 in
theorem text_any (a : Option Addr) (n cap : Nat) (zs : List Int) (w : World) (hh : HoldsI .i32 w a n zs) (hn : n ≤ 1048576) (hr : ∀ z ∈ zs, -2147483648 ≤ z ∧ z ≤ 2147483647) :
    Calls Try.prog 50 #[.slice a n cap] w fun e w' => e = .returned (.tuple #[.string (textZ zs), .bool (decide (allG zs))]) ∧ Below w.heap.size w w' := by
  have hl := hh.len
  go_enter Try.func50, Try.ntmps50
  go_wp2_with fail
  go_loopw [9] (fun cv wr => ∃ j : Nat, j ≤ n ∧ cv = .int .i64 j ∧ Hid (allG (zs.take j)) ∧ Hid (Lib.IsBuilderF 91 5 w.heap.size w.heap.size (Lib.byteCells (encL (zs.take j))) wr) ∧ Hid (Below w.heap.size w wr)) (fun cv _ => n - (intOf cv).toNat)
  case atStart =>
    refine ⟨0, by omega, rfl, Lib.hid (by simp [allG]), Lib.hid (Lib.IsBuilderF.of (Lib.fresh_isBuilder _ _ w)), Lib.hid (below_one _ _)⟩
  case round =>
    obtain ⟨j, hj, rfl, hG, hI, hB⟩ := hrel
    have hs := hB.out.size
    by_cases hlt : j < n
    · obtain ⟨b, o, rfl, hc⟩ := (hh.below hB.out).at (by omega)
      have e1 := hc j hlt
      have hrj := hr _ (getD_mem' zs j (by omega))
      have hmem := getD_mem' zs j (by omega)
      have htk := take_succ_getD zs 0 j (by omega)
      obtain ⟨x, hx⟩ : ∃ x, zs.getD j 0 = x := ⟨_, rfl⟩
      rw [hx] at e1 hrj hmem htk
      have HM := Lib.hid hmem; have HT := Lib.hid htk
      clear hx hmem htk hc
      by_cases hbad : x = 65533
      · subst hbad
        have hb := textZ_bad 65533 HM.out (by unfold goodP; omega)
        have HB := Lib.hid hb
        clear hb
        go_wp2_with fail
        go_ret2
        exact ⟨by rw [HB.out.1, HB.out.2]; rfl, hB.out⟩
      · have hb : (x == 65533) = false := by rw [beq_eq_false_iff_ne]; exact hbad
        have HBD := Lib.hid hbad
        clear hbad
        by_cases hv : 0 ≤ x ∧ x ≤ 1114111 ∧ (x < 55296 ∨ 57343 < x)
        · have hval := fun w => valid_any x w
          rw [decide_eq_true hv] at hval
          have hg : goodP x := ⟨hv.1, hv.2.1, hv.2.2, HBD.out⟩
          have HG := Lib.hid hg; have HV := Lib.hid hval
          clear hv hval hg
          go_wp2_with fail
          refine (HV.out _).mono ?_
          rintro e w' ⟨rfl, rfl⟩
          go_wp2_with fail
          have hlen : (encL (zs.take j)).length ≤ 4 * j := by
            have h1 := encL_le (zs.take j)
            have h2 : (zs.take j).length ≤ j := List.length_take_le _ _
            omega
          refine (bwrite_any w.heap.size w.heap.size _ x hrj.1 hrj.2 _ hI.out (by rw [Lib.byteCells_length]; omega) hs).mono ?_
          rintro e w2 ⟨rfl, hb2, hb3⟩
          rw [byteCells_snoc, ← HT.out] at hb2
          go_wp2_with fail
          go_roundw
          case rel => exact ⟨j + 1, by omega, by go_num, Lib.hid (by rw [HT.out]; intro z hz; rcases List.mem_append.1 hz with hz | hz; exact hG.out z hz; simp at hz; rw [hz]; exact HG.out), Lib.hid (Or.inr hb2), Lib.hid (hB.out.trans hb3)⟩
          case measure => simp [intOf]; omega
        · have hval := fun w => valid_any x w
          rw [decide_eq_false hv] at hval
          have hb2 := textZ_bad x HM.out (fun k => hv ⟨k.1, k.2.1, k.2.2.1⟩)
          have HV := Lib.hid hval; have HB := Lib.hid hb2
          clear hv hval hb2
          go_wp2_with fail
          refine (HV.out _).mono ?_
          rintro e w' ⟨rfl, rfl⟩
          go_wp2_with fail
          go_ret2
          exact ⟨by rw [HB.out.1, HB.out.2]; rfl, hB.out⟩
    · have hjn : zs.take j = zs := List.take_of_length_le (by omega)
      have HJ := Lib.hid hjn
      clear hjn
      go_wp2_with fail
      refine (bstring_any w.heap.size w.heap.size _ _ hI.out hs).mono ?_
      rintro e w2 ⟨rfl, _, hb2, _⟩
      go_wp2_with fail
      go_ret2
      have hg := textZ_good (show allG zs by have := hG.out; rw [HJ.out] at this; exact this)
      exact ⟨by rw [hg.1, hg.2, HJ.out]; rfl, hB.out.trans hb2⟩
end Go.Proofs.Ytmmliepkcgdnlaa
/- graph: the text of one rune -/
namespace Go.Proofs.Ytmmliepkcgdnlaa
open Go.RowKit
set_option linter.unusedVariables false
set_option maxRecDepth 20000
theorem ue_encode_list (r w b0 b1 b2 b3 : Nat) (h : Enc r w b0 b1 b2 b3) (hs : r < 55296 ∨ 57343 < r) : Lib.encodeRune (r : Int) = ([b0, b1, b2, b3].take w).map UInt8.ofNat := by
  unfold Lib.encodeRune
  rcases h with ⟨rfl, rfl, h⟩ | ⟨rfl, h0, h1, h2, h3⟩ | ⟨rfl, h0, h1, h2, h3, h4⟩ | ⟨rfl, h0, h1, h2, h3, h4, h5⟩
  · rw [Lib.encodeRuneZ_one (by omega) (by omega)]; rfl
  · rw [Lib.encodeRuneZ_two (by omega) (by omega)]
    have e0 : (192 + (r : Int) / 64).toNat = b0 := by omega
    have e1 : (128 + (r : Int) % 64).toNat = b1 := by omega
    simp only [List.map, e0, e1, List.take]
  · rw [Lib.encodeRuneZ_three (by omega)]
    have e0 : (224 + (r : Int) / 4096).toNat = b0 := by omega
    have e1 : (128 + (r : Int) / 64 % 64).toNat = b1 := by omega
    have e2 : (128 + (r : Int) % 64).toNat = b2 := by omega
    simp only [List.map, e0, e1, e2, List.take]
  · rw [Lib.encodeRuneZ_four (by omega) (by omega)]
    have e0 : (240 + (r : Int) / 262144).toNat = b0 := by omega
    have e1 : (128 + (r : Int) / 4096 % 64).toNat = b1 := by omega
    have e2 : (128 + (r : Int) / 64 % 64).toNat = b2 := by omega
    have e3 : (128 + (r : Int) % 64).toNat = b3 := by omega
    simp only [List.map, e0, e1, e2, e3, List.take]
/-- a first rune's text, and what is behind it -/
theorem text_rst {t : Tx} (h : 0 ≤ lenS t) (h0 : 0 < t.size) : textZ [(labS t : Int)] ++ rstS t = t := by
  obtain ⟨h1, h2, -⟩ := good_first h h0
  obtain ⟨e1, e2⟩ := ue_read_well t 0 h0 h1
  have hw := ue_enc_width e1
  have hl : labS t = (Utf8.decode t 0).1 := rfl
  have hg : allG [(labS t : Int)] := by
    intro z hz
    simp only [List.mem_singleton] at hz
    subst hz
    rw [hl]
    unfold goodP
    omega
  rw [(textZ_good hg).1]
  have he : encB [(labS t : Int)] = Utf8.encode (labS t : Int) := by
    rw [hl]
    apply tx_ext
    rw [encode_enc _ _ _ _ _ _ e1 e2, ← ue_encode_list _ _ _ _ _ _ e1 e2]
    simp [encB, encL]
  rw [he]
  exact enc_rst h h0
end Go.Proofs.Ytmmliepkcgdnlaa
/- graph: a list that grows beside rows that stay -/
namespace Go.Proofs.Ytmmliepkcgdnlaa
open Go.RowKit
set_option linter.unusedVariables false
set_option maxRecDepth 20000
/-- a list of texts of the call's own; the blocks K are none of its -/
structure FS (B : Nat) (w0 : World) (K : Nat → Prop) (oa : Option Addr) (oc : Nat) (out : List Tx) (w : World) : Prop where
  o : w.ownsRow B 9 1 (.slice oa out.length oc) out.length (strsV out)
  no : ∀ q, oa = some ⟨q, 0, none⟩ → ¬ K q
  kl : ∀ k, K k → k < w.heap.size
  b : Below B w0 w
  bl : B ≤ w.heap.size
theorem FS.more {B : Nat} {w0 : World} {K : Nat → Prop} {oa : Option Addr} {oc : Nat} {out : List Tx} {w w' : World} (h : FS B w0 K oa oc out w) (hb : Below w.heap.size w w') : FS B w0 K oa oc out w' :=
  ⟨owns_below h.o hb, h.no, fun k hk => Nat.lt_of_lt_of_le (h.kl k hk) hb.size, h.b.trans (hb.mono h.bl), Nat.le_trans h.bl hb.size⟩
/-- rows made since stay too -/
theorem FS.keep {B : Nat} {w0 : World} {K L : Nat → Prop} {oa : Option Addr} {oc : Nat} {out : List Tx} {w : World} (h : FS B w0 K oa oc out w) (h1 : ∀ q, oa = some ⟨q, 0, none⟩ → ¬ L q) (h2 : ∀ k, L k → k < w.heap.size) : FS B w0 (fun k => K k ∨ L k) oa oc out w :=
  ⟨h.o, fun q e hk => hk.elim (h.no q e) (h1 q e), fun k hk => hk.elim (h.kl k) (h2 k), h.b, h.bl⟩
theorem FS.less {B : Nat} {w0 : World} {K L : Nat → Prop} {oa : Option Addr} {oc : Nat} {out : List Tx} {w : World} (h : FS B w0 K oa oc out w) (hl : ∀ k, L k → K k) : FS B w0 L oa oc out w :=
  ⟨h.o, fun q e hk => h.no q e (hl q hk), fun k hk => h.kl k (hl k hk), h.b, h.bl⟩
theorem FS.grow {B : Nat} {w0 : World} {K : Nat → Prop} {oa : Option Addr} {oc : Nat} {out : List Tx} {x : Tx} {w w6 : World} {q cap : Nat} {o : Obj} (h : FS B w0 K oa oc out w)
    (own : w6.ownsRow B 9 1 (.slice (some ⟨q, 0, none⟩) (out.length + 1) cap) (out.length + 1) (strsV out ++ [.string x]))
    (hg : (w.alloc o).grownBy w6 (Value.slice oa out.length oc).ownBlock) (hat : (Value.slice oa out.length oc).ownBlock = some q ∨ q = (w.alloc o).heap.size) :
    FS B w0 K (some ⟨q, 0, none⟩) cap (out ++ [x]) w6 ∧ Turn (fun k => oa = some ⟨k, 0, none⟩) w w6 := by
  have hza : (w.alloc o).heap.size = w.heap.size + 1 := by simp
  have hz6 := hg.size
  have old : ∀ k, k < w.heap.size → oa ≠ some ⟨k, 0, none⟩ → w6.heap[k]? = w.heap[k]? := fun k hk hn =>
    (hg.block k (by omega) (fun e => hn (gown_at h.o e))).trans (Below.heap_alloc _ _ _ (by omega))
  have t : Turn (fun k => oa = some ⟨k, 0, none⟩) w w6 := ⟨hg.os, hg.tape, hg.output, by omega, fun k hk hn => old k hk hn⟩
  have hlen : (out ++ [x]).length = out.length + 1 := by simp
  refine ⟨⟨by rw [hlen, strsV_snocG]; exact own, fun r hr hk => ?_, fun k hk => by have := h.kl k hk; omega, h.b.trans (t.below (fun k hk => (h.o.lt k (by rw [hk]; rfl)).1) h.bl), by have := h.bl; omega⟩, t⟩
  injection hr with hr; injection hr with hr; subst hr
  rcases hat with e | e
  · exact h.no q (gown_at h.o e.symm) hk
  · have := h.kl q hk; omega
theorem FS.start (w : World) : FS w.heap.size w (fun _ => False) none 0 [] w := ⟨World.ownsRow_nil _ _ _ _, fun q e => by (cases e), fun k hk => hk.elim, Below.refl _ _, Nat.le_refl _⟩
end Go.Proofs.Ytmmliepkcgdnlaa
/- graph: the law's from -/
namespace Go.Proofs.Ytmmliepkcgdnlaa
open Go.RowKit
set_option linter.unusedVariables false
set_option maxRecDepth 20000
theorem holdsI_lit1G (w : World) (x : Int) (e : TypeId) (fr : Nat × Nat) : HoldsI .i32 (w.alloc (.cells #[.int .i32 x] e fr)) (some ⟨w.heap.size, 0, none⟩) 1 [x] := by
  refine ⟨rfl, fun _ => ⟨w.heap.size, 0, rfl, fun i hi => ?_⟩⟩
  obtain rfl : i = 0 := by omega
  rw [World.cell?_alloc_mark]; rfl
theorem runeLab {l : List Tx} (h : Run l) (h0 : l ≠ []) : (folS l).1 ≤ 1114111 := by
  cases l with
  | nil => exact absurd rfl h0
  | cons t l =>
    show (Utf8.decode t 0).1 ≤ 1114111
    have h1 := (good_first (h.lo t (by simp)) (h.pos t (by simp))).1
    exact (ue_enc_width (ue_read_well t 0 (h.pos t (by simp)) h1).1).2.2
theorem fol_mapT {l : List Tx} (h : Run l) (h0 : l ≠ []) : (folS l).2.map (fun x => textZ [((folS l).1 : Int)] ++ x) = l.take (folS l).2.length := by
  obtain ⟨k, hk, h1, h2⟩ := fol_split h0
  rw [← hk, h2, List.map_map]
  conv => rhs; rw [← List.map_id (l.take k)]
  refine List.map_congr_left fun u hu => ?_
  have hm : u ∈ l := List.mem_of_mem_take hu
  have hl : labS u = (folS l).1 := by
    rw [h1] at hu
    have h3 := mem_tw (p := fun t => decide (labS t = labS (l.getD 0 ByteArray.empty))) hu
    rw [show labS u = labS (l.getD 0 ByteArray.empty) from of_decide_eq_true h3]
    cases l with
    | nil => exact absurd rfl h0
    | cons a l => rfl
  show textZ [((folS l).1 : Int)] ++ rstS u = u
  rw [← hl, text_rst (h.lo u hm) (h.pos u hm)]
def FromAny (g : Nat) (st : List GN) (ts : List Tx) (f : Nat) : Prop := ∀ (k : Nat) (l : List Tx) (d : Nat) (Sg : Nat → Prop) (w : World), (restsG st)[k]? = some l → OkL f l → GAt g st w Sg → f ≤ d → d ≤ 100 →
    Calls Try.prog 33 #[.pointer (some ⟨g, 0, none⟩), .int .i64 k, .int .i64 d] w (RetTx w l)
set_option maxHeartbeats 3200000 in
theorem from_step (g : Nat) (st : List GN) (ts : List Tx) (G : GOk st ts) (f : Nat) (IH : ∀ f', f = f' + 1 → FromAny g st ts f') : FromAny g st ts f := by
  intro k l d Sg w hR hO hG hfd hd
  obtain ⟨i0, hi, hz0, hz1, hz2⟩ := info_parts strG_info
  obtain ⟨hk, hr, hN⟩ := G.node hR
  obtain ⟨a1, a2, a3⟩ := has_at hk
  have hfin := hN.fin
  rw [hr] at hfin
  rw [hfin] at a3
  have hed := hN.ed
  rw [hr] at hed
  obtain ⟨es, hes⟩ : ∃ b, (st.getD k gn0).edges = b := ⟨_, rfl⟩
  rw [hes] at hed a2
  have CF := Lib.hid (gFinal_any g st Sg (k : Int) w hG)
  rw [a3] at CF
  have CE := Lib.hid (fun (w' : World) (hb : Below w.heap.size w w') => gEdges_any g st Sg (k : Int) w' ((gAt_ok g st).below hG hb) (fun x hx => by have := G.few x hx; omega))
  rw [a2] at CE
  cases hb : finS l with
  | false =>
    rw [hb] at CF
    go_enter Try.func33, Try.ntmps33
    go_wp2_with fail
    refine CF.out.mono ?_
    rintro e w1 ⟨rfl, rfl⟩
    go_wp2_with fail
    refine (CE.out w (Below.refl _ _)).mono ?_
    rintro e w2 ⟨ea, ec, rfl, ho, hb2⟩
    obtain ⟨m, hm⟩ : ∃ m, es.length = m := ⟨_, rfl⟩
    have E2 := Lib.hid (HoldsEd.own ho)
    have F2 := Lib.hid (((FS.start w).more hb2).keep (L := fun q => ∃ fo, ea = some ⟨q, fo, none⟩) (fun q e => by cases e) (fun q e => (own_blockG ho e.choose_spec).2))
    have OB := Lib.hid hO.bod; have BP := Lib.hid (bod_pos hO.ord); have HED := Lib.hid hed
    have HBL := Lib.hid (show l = [] ++ bodS l from by unfold bodS; rw [hb]; rfl)
    have hm1 : m ≤ 1000 := by have := G.few _ (show st.getD k gn0 ∈ st by rw [List.getD_eq_getElem?_getD, List.getElem?_eq_getElem hk]; simp); rw [hes, hm] at this; omega
    have GH := Lib.hid hG; have IHH := Lib.hid IH; have LN := Lib.hid hO.n; have HM := Lib.hid hm
    rw [hm] at E2 ⊢
    clear ho hb2 CE CF hb hfin hed hes hr hN hR hO hG IH a1 a2 a3 hm
    go_wp2_with fail
    go_loopw [7, 9] (fun ov iv wr => ∃ (j : Nat) (oa : Option Addr) (oc on : Nat) (out l' : List Tx), j ≤ m ∧ on = out.length ∧ ov = .slice oa on oc ∧ iv = .int .i64 j ∧ Hid (l = out ++ l') ∧ Hid (EdOk (restsG st) l' (es.drop j)) ∧ Hid (OkL f l') ∧ Hid (∀ t ∈ l', 0 < t.size) ∧ Hid (FS w.heap.size w (fun q => False ∨ ∃ fo, ea = some ⟨q, fo, none⟩) oa oc out wr) ∧ Hid (HoldsEd wr ea m es)) (fun _ iv _ => m - (intOf iv).toNat)
    case atStart => exact ⟨0, none, 0, 0, [], bodS l, by omega, rfl, rfl, rfl, HBL, HED, OB, BP, F2, E2⟩
    case round =>
      obtain ⟨j, oa, oc, on, out, l', hj, hon, rfl, rfl, hL, hE, hO', hP, hF, hH⟩ := hrel
      by_cases hlt : j < m
      · obtain ⟨b, o, rfl, hc⟩ := hH.out.at (by omega)
        have x0 := hc j hlt
        have hE1 := hE.out
        rw [drop_ed es j (by have := HM.out; omega)] at hE1
        obtain ⟨hne, hr1, ⟨k', hd1, hR1⟩, hE2⟩ := hE1
        obtain ⟨x1, x2⟩ := x0
        rw [hr1] at x1
        rw [hd1] at x2
        obtain ⟨f', rfl⟩ : ∃ f', f = f' + 1 := by
          cases l' with
          | nil => exact absurd rfl hne
          | cons t l2 =>
            have h1 := rst_len (hO'.out.lo t (by simp)) (hP.out t (by simp))
            have h2 := hO'.out.hi t (by simp)
            exact ⟨f - 1, by omega⟩
        have hof := hO'.out.fol hP.out
        obtain ⟨lb, hlb⟩ : ∃ v, (folS l').1 = v := ⟨_, rfl⟩
        have n1 : (0 : Int) ≤ (j : Int) := by omega
        have n2 : (j : Int) < (m : Int) := by omega
        obtain ⟨d', hd'⟩ : ∃ d' : Nat, (d : Int) - 1 = (d' : Int) := ⟨d - 1, by omega⟩
        have d1 : decide ((0 : Int) < (d : Int)) = true := decide_eq_true (by omega)
        rw [hlb] at x1
        have hRun : Run l' := ⟨hO'.out.ord, hP.out, hO'.out.lo⟩
        have hmap := fol_mapT hRun hne
        obtain ⟨hf1, hf2⟩ := fol_len l' hne
        rw [hlb] at hmap
        have hF1 := hF.out.more (below_one wr (.cells #[.int .i32 (lb : Int)] 21))
        have hH1 := hH.out.below (below_one wr (.cells #[.int .i32 (lb : Int)] 21))
        have hG1 := (gAt_ok g st).below GH.out (hF1.b)
        have CT := Lib.hid (text_any (some ⟨wr.heap.size, 0, none⟩) 1 1 [(lb : Int)] (wr.alloc (.cells #[.int .i32 (lb : Int)] 21)) (holdsI_lit1G wr (lb : Int) 21 (0, 0)) (by decide) (by
          intro z hz
          simp only [List.mem_singleton] at hz
          have := runeLab hRun hne
          rw [hlb] at this
          omega))
        have F1 := Lib.hid hF1; have H1 := Lib.hid hH1
        have CI := Lib.hid (fun (w' : World) (hb : Below (wr.alloc (.cells #[.int .i32 (lb : Int)] 21)).heap.size (wr.alloc (.cells #[.int .i32 (lb : Int)] 21)) w') => IHH.out f' rfl k' (folS l').2 d' Sg w' hR1 hof ((gAt_ok g st).below hG1 hb) (by omega) (by omega))
        have HMP := Lib.hid hmap; have HE2 := Lib.hid hE2
        have HK := Lib.hid (And.intro hf1 hf2)
        clear hc hr1 hd1 hR1 hE2 hof hlb hRun hmap hF1 hH1 hG1 hne hf1 hf2 hF hH
        go_wp2_with fail
        refine CT.out.mono ?_
        rintro e w4 ⟨rfl, hb4⟩
        have F4 := Lib.hid (F1.out.more hb4)
        have H4 := Lib.hid (H1.out.below hb4)
        have CI4 := Lib.hid (CI.out w4 hb4)
        have x24 := x2
        have y2 := (hb4.cell (p := ⟨b, o + j * 2 + 1, none⟩) (by have := lt_of_cell x2; simp; omega)).trans ((below_one wr (.cells #[.int .i32 (lb : Int)] 21)).cell (p := ⟨b, o + j * 2 + 1, none⟩) (lt_of_cell x2) |>.trans x2)
        clear hb4 CT CI x2 x24 F1 H1
        go_wp2_with fail
        refine CI4.out.mono ?_
        rintro e w5 ⟨ma, mc, rfl, hmo, hb5⟩
        have M5 := Lib.hid (HoldsT.own hmo)
        have F5 := Lib.hid ((F4.out.more hb5).keep (L := fun q => ∃ fo, ma = some ⟨q, fo, none⟩) (fun q e e2 => by
          have h1 := (F4.out.o.lt q (by rw [e]; rfl)).2
          have h2 := (own_blockG hmo e2.choose_spec).1
          omega) (fun q e => (own_blockG hmo e.choose_spec).2))
        have H5 := Lib.hid (H4.out.below hb5)
        obtain ⟨fl, hfl⟩ : ∃ fl, (folS l').2 = fl := ⟨_, rfl⟩
        rw [hfl] at HMP HE2 HK M5 ⊢
        obtain ⟨fn, hfn⟩ : ∃ fn, fl.length = fn := ⟨_, rfl⟩
        rw [hfn] at HMP HE2 HK M5 ⊢
        have hfn100 : fn ≤ 100 := by have := HK.out.2; have := LN.out; rw [hL.out, List.length_append] at this; omega
        have hon100 : on + l'.length ≤ 100 := by have := LN.out; rw [hL.out, List.length_append] at this; omega
        have HFN := Lib.hid hfn
        have HSZ := Lib.hid (show ∀ i, i < fn → textZ [(lb : Int)] ++ fl.getD i ByteArray.empty = l'.getD i ByteArray.empty ∧ (textZ [(lb : Int)]).size + (fl.getD i ByteArray.empty).size ≤ 100 from fun i hi => by
          have h1 := congrArg (fun l => l.getD i ByteArray.empty) HMP.out
          simp only [List.getD_eq_getElem?_getD, List.getElem?_map, List.getElem?_take_of_lt hi] at h1
          rw [List.getElem?_eq_getElem (show i < fl.length by omega)] at h1
          have h2 : textZ [(lb : Int)] ++ fl.getD i ByteArray.empty = l'.getD i ByteArray.empty := by
            rw [List.getD_eq_getElem?_getD, List.getD_eq_getElem?_getD, List.getElem?_eq_getElem (show i < fl.length by omega)]
            simpa using h1
          refine ⟨h2, ?_⟩
          rw [← ByteArray.size_append, h2]
          exact hO'.out.sz _ (getD_tx (by have := HK.out.2; omega)))
        clear hmo hb5 F4 H4 CI4 y2 x1 HMP hfl hfn
        go_wp2_with fail
        go_loopw [7, 13] (fun ov kv wq => ∃ (i : Nat) (oa2 : Option Addr) (oc2 on2 : Nat) (out2 : List Tx), i ≤ fn ∧ on2 = out2.length ∧ ov = .slice oa2 on2 oc2 ∧ kv = .int .i64 i ∧ Hid (out2 = out ++ l'.take i) ∧ Hid (FS w.heap.size w (fun q => (False ∨ ∃ fo, some ⟨b, o, none⟩ = some (⟨q, fo, none⟩ : Addr)) ∨ ∃ fo, ma = some ⟨q, fo, none⟩) oa2 oc2 out2 wq) ∧ Hid (HoldsEd wq (some ⟨b, o, none⟩) m es) ∧ Hid (HoldsT wq ma fn fl)) (fun _ kv _ => fn - (intOf kv).toNat)
        case atStart => exact ⟨0, oa, oc, out.length, out, by omega, rfl, rfl, rfl, Lib.hid (by simp), F5, H5, M5⟩
        case round =>
          obtain ⟨i, oa2, oc2, on2, out2, hi2, hon2, rfl, rfl, hO2, hF2, hH2, hM2⟩ := hrel
          by_cases hil : i < fn
          · obtain ⟨bm, om, rfl, hcm⟩ := hM2.out.at (by omega)
            have xm := hcm i hil
            obtain ⟨hx1, hx2⟩ := HSZ.out i hil
            obtain ⟨xt, hxt⟩ : ∃ t, fl.getD i ByteArray.empty = t := ⟨_, rfl⟩
            rw [hxt] at xm hx1 hx2
            have i1 : (0 : Int) ≤ (i : Int) := by omega
            have i2 : (i : Int) < (fn : Int) := by omega
            obtain ⟨xl, hxl⟩ : ∃ t, l'.getD i ByteArray.empty = t := ⟨_, rfl⟩
            rw [hxl] at hx1
            have HXL := Lib.hid (show out2 ++ [xl] = out ++ l'.take (i + 1) from by
              rw [take_tx l' i (by have := HK.out.2; omega), hxl, hO2.out, List.append_assoc])
            have hol : out2.length ≤ 200 := by rw [hO2.out, List.length_append, List.length_take]; omega
            subst hon2
            have hbl := hF2.out.bl
            have XLT := Lib.hid (lt_of_cell xm)
            clear hcm hxt hxl
            go_wp2_with (at_builtin; refine wpList_append_lies _ rfl (.tmp 58) (.tmp 65) 22 rfl w.heap.size 9 i0 _ 1 16 Try.underlying22 hi hz0 hz1 hz2 rfl (by omega) (.slice oa2 out2.length oc2) out2.length (strsV out2) (by rfl) (hF2.out.o.alloc _) ⟨wr.heap.size, 0, none⟩ 1 1 [.string xl] (by rfl) (by rfl) (World.news_of_block (cs := #[.string xl]) (t := 9) (fr := (0, 0)) (heap_alloc_new wr _)) (by simp [Value.oneCell']) (by omega) (by unfold maxLen; omega) (by omega) (by simp; omega) (wr.heap.size + 1) (by simp) ?_; intro g3 c3' w3 hown3 hgrow3 hat3 hlt3; have GR := Lib.hid (hF2.out.grow hown3 hgrow3 (hat3.imp id (fun e => by simp; exact e))); clear hown3 hgrow3 hat3 hlt3)
            go_roundw
            case rel => exact ⟨i + 1, some ⟨g3, 0, none⟩, c3', out2.length + 1, out2 ++ [xl], by omega, by simp, rfl, by go_num, HXL, Lib.hid GR.out.1, Lib.hid (holdsEd_blocks hH2.out (fun fb fo e => GR.out.2.block fb (hF2.out.kl fb (Or.inl (Or.inr ⟨fo, e⟩))) (fun e2 => hF2.out.no fb e2 (Or.inl (Or.inr ⟨fo, e⟩))))), Lib.hid (holdsT_turn hM2.out GR.out.2 (fun _ fb fo e e2 => hF2.out.no fb e2 (Or.inr ⟨fo, e⟩)))⟩
            case measure => simp [intOf] <;> omega
          · obtain rfl : i = fn := by omega
            go_wp2_with fail
            go_roundw
            case rel => exact ⟨j + 1, oa2, oc2, on2, out2, l'.drop i, by omega, hon2, rfl, by go_num, Lib.hid (by rw [hO2.out, hL.out, List.append_assoc, List.take_append_drop]), HE2, Lib.hid (hO'.out.drop _), Lib.hid (fun t ht => hP.out t (List.mem_of_mem_drop ht)), Lib.hid (hF2.out.less (fun q hq => Or.inl hq)), hH2⟩
            case measure => simp [intOf] <;> omega
      · obtain rfl : j = m := by omega
        have hE2 := hE.out
        rw [List.drop_of_length_le (by have := HM.out; omega)] at hE2
        obtain rfl : l' = [] := hE2
        have hl2 := hL.out
        rw [List.append_nil] at hl2
        subst hl2
        subst hon
        go_wp2_with fail
        go_ret
        exact ⟨oa, oc, rfl, hF.out.o, hF.out.b⟩
  | true =>
    rw [hb] at CF
    go_enter Try.func33, Try.ntmps33
    go_wp2_with fail
    refine CF.out.mono ?_
    rintro e w1 ⟨rfl, rfl⟩
    go_wp2_with (at_builtin; refine wpList_append_lies _ rfl (.tmp 17) (.tmp 18) 22 rfl w.heap.size 9 i0 _ 1 16 Try.underlying22 hi hz0 hz1 hz2 rfl (by omega) (.slice none 0 0) 0 (strsV []) (by rfl) ((World.ownsRow_nil w w.heap.size 9 1).alloc _) ⟨w.heap.size, 0, none⟩ 1 1 [.string ⟨#[]⟩] (by rfl) (by rfl) (World.news_of_block (cs := #[.string ⟨#[]⟩]) (t := 9) (fr := (0, 0)) (heap_alloc_new w _)) (by simp [Value.oneCell']) (by omega) (by unfold maxLen; omega) (by omega) (by simp) (w.heap.size + 1) (by simp) ?_; intro g0 c0' w3 hown3 hgrow3 hat3 hlt3; have GR := Lib.hid ((FS.start w).grow (x := ⟨#[]⟩) hown3 hgrow3 (hat3.imp id (fun e => by simp; exact e))); clear hown3 hgrow3 hat3)
    refine (CE.out w3 GR.out.1.b).mono ?_
    rintro e w2 ⟨ea, ec, rfl, ho, hb2⟩
    obtain ⟨m, hm⟩ : ∃ m, es.length = m := ⟨_, rfl⟩
    have E2 := Lib.hid (HoldsEd.own ho)
    have F2 := Lib.hid ((GR.out.1.more hb2).keep (L := fun q => ∃ fo, ea = some ⟨q, fo, none⟩) (fun q e e2 => by
      injection e with e; injection e with e
      have h1 := (own_blockG ho e2.choose_spec).1
      omega) (fun q e => (own_blockG ho e.choose_spec).2))
    have OB := Lib.hid hO.bod; have BP := Lib.hid (bod_pos hO.ord); have HED := Lib.hid hed
    have HBL := Lib.hid (show l = [⟨#[]⟩] ++ bodS l from by
      have hhd : l.head? = some (⟨#[]⟩ : ByteArray) := of_decide_eq_true hb
      unfold bodS
      rw [hb, if_pos rfl]
      cases l with
      | nil => cases hhd
      | cons t l2 =>
        rw [List.head?_cons] at hhd
        injection hhd with hhd
        rw [hhd]; rfl)
    have hm1 : m ≤ 1000 := by have := G.few _ (show st.getD k gn0 ∈ st by rw [List.getD_eq_getElem?_getD, List.getElem?_eq_getElem hk]; simp); rw [hes, hm] at this; omega
    have GH := Lib.hid hG; have IHH := Lib.hid IH; have LN := Lib.hid hO.n; have HM := Lib.hid hm
    rw [hm] at E2 ⊢
    clear ho hb2 CE CF hb hfin hed hes hr hN hR hO hG IH a1 a2 a3 hm
    go_wp2_with fail
    go_loopw [7, 9] (fun ov iv wr => ∃ (j : Nat) (oa : Option Addr) (oc on : Nat) (out l' : List Tx), j ≤ m ∧ on = out.length ∧ ov = .slice oa on oc ∧ iv = .int .i64 j ∧ Hid (l = out ++ l') ∧ Hid (EdOk (restsG st) l' (es.drop j)) ∧ Hid (OkL f l') ∧ Hid (∀ t ∈ l', 0 < t.size) ∧ Hid (FS w.heap.size w (fun q => False ∨ ∃ fo, ea = some ⟨q, fo, none⟩) oa oc out wr) ∧ Hid (HoldsEd wr ea m es)) (fun _ iv _ => m - (intOf iv).toNat)
    case atStart => exact ⟨0, some ⟨g0, 0, none⟩, c0', 1, [⟨#[]⟩], bodS l, by omega, rfl, rfl, rfl, HBL, HED, OB, BP, F2, E2⟩
    case round =>
      obtain ⟨j, oa, oc, on, out, l', hj, hon, rfl, rfl, hL, hE, hO', hP, hF, hH⟩ := hrel
      by_cases hlt : j < m
      · obtain ⟨b, o, rfl, hc⟩ := hH.out.at (by omega)
        have x0 := hc j hlt
        have hE1 := hE.out
        rw [drop_ed es j (by have := HM.out; omega)] at hE1
        obtain ⟨hne, hr1, ⟨k', hd1, hR1⟩, hE2⟩ := hE1
        obtain ⟨x1, x2⟩ := x0
        rw [hr1] at x1
        rw [hd1] at x2
        obtain ⟨f', rfl⟩ : ∃ f', f = f' + 1 := by
          cases l' with
          | nil => exact absurd rfl hne
          | cons t l2 =>
            have h1 := rst_len (hO'.out.lo t (by simp)) (hP.out t (by simp))
            have h2 := hO'.out.hi t (by simp)
            exact ⟨f - 1, by omega⟩
        have hof := hO'.out.fol hP.out
        obtain ⟨lb, hlb⟩ : ∃ v, (folS l').1 = v := ⟨_, rfl⟩
        have n1 : (0 : Int) ≤ (j : Int) := by omega
        have n2 : (j : Int) < (m : Int) := by omega
        obtain ⟨d', hd'⟩ : ∃ d' : Nat, (d : Int) - 1 = (d' : Int) := ⟨d - 1, by omega⟩
        have d1 : decide ((0 : Int) < (d : Int)) = true := decide_eq_true (by omega)
        rw [hlb] at x1
        have hRun : Run l' := ⟨hO'.out.ord, hP.out, hO'.out.lo⟩
        have hmap := fol_mapT hRun hne
        obtain ⟨hf1, hf2⟩ := fol_len l' hne
        rw [hlb] at hmap
        have hF1 := hF.out.more (below_one wr (.cells #[.int .i32 (lb : Int)] 21))
        have hH1 := hH.out.below (below_one wr (.cells #[.int .i32 (lb : Int)] 21))
        have hG1 := (gAt_ok g st).below GH.out (hF1.b)
        have CT := Lib.hid (text_any (some ⟨wr.heap.size, 0, none⟩) 1 1 [(lb : Int)] (wr.alloc (.cells #[.int .i32 (lb : Int)] 21)) (holdsI_lit1G wr (lb : Int) 21 (0, 0)) (by decide) (by
          intro z hz
          simp only [List.mem_singleton] at hz
          have := runeLab hRun hne
          rw [hlb] at this
          omega))
        have F1 := Lib.hid hF1; have H1 := Lib.hid hH1
        have CI := Lib.hid (fun (w' : World) (hb : Below (wr.alloc (.cells #[.int .i32 (lb : Int)] 21)).heap.size (wr.alloc (.cells #[.int .i32 (lb : Int)] 21)) w') => IHH.out f' rfl k' (folS l').2 d' Sg w' hR1 hof ((gAt_ok g st).below hG1 hb) (by omega) (by omega))
        have HMP := Lib.hid hmap; have HE2 := Lib.hid hE2
        have HK := Lib.hid (And.intro hf1 hf2)
        clear hc hr1 hd1 hR1 hE2 hof hlb hRun hmap hF1 hH1 hG1 hne hf1 hf2 hF hH
        go_wp2_with fail
        refine CT.out.mono ?_
        rintro e w4 ⟨rfl, hb4⟩
        have F4 := Lib.hid (F1.out.more hb4)
        have H4 := Lib.hid (H1.out.below hb4)
        have CI4 := Lib.hid (CI.out w4 hb4)
        have x24 := x2
        have y2 := (hb4.cell (p := ⟨b, o + j * 2 + 1, none⟩) (by have := lt_of_cell x2; simp; omega)).trans ((below_one wr (.cells #[.int .i32 (lb : Int)] 21)).cell (p := ⟨b, o + j * 2 + 1, none⟩) (lt_of_cell x2) |>.trans x2)
        clear hb4 CT CI x2 x24 F1 H1
        go_wp2_with fail
        refine CI4.out.mono ?_
        rintro e w5 ⟨ma, mc, rfl, hmo, hb5⟩
        have M5 := Lib.hid (HoldsT.own hmo)
        have F5 := Lib.hid ((F4.out.more hb5).keep (L := fun q => ∃ fo, ma = some ⟨q, fo, none⟩) (fun q e e2 => by
          have h1 := (F4.out.o.lt q (by rw [e]; rfl)).2
          have h2 := (own_blockG hmo e2.choose_spec).1
          omega) (fun q e => (own_blockG hmo e.choose_spec).2))
        have H5 := Lib.hid (H4.out.below hb5)
        obtain ⟨fl, hfl⟩ : ∃ fl, (folS l').2 = fl := ⟨_, rfl⟩
        rw [hfl] at HMP HE2 HK M5 ⊢
        obtain ⟨fn, hfn⟩ : ∃ fn, fl.length = fn := ⟨_, rfl⟩
        rw [hfn] at HMP HE2 HK M5 ⊢
        have hfn100 : fn ≤ 100 := by have := HK.out.2; have := LN.out; rw [hL.out, List.length_append] at this; omega
        have hon100 : on + l'.length ≤ 100 := by have := LN.out; rw [hL.out, List.length_append] at this; omega
        have HFN := Lib.hid hfn
        have HSZ := Lib.hid (show ∀ i, i < fn → textZ [(lb : Int)] ++ fl.getD i ByteArray.empty = l'.getD i ByteArray.empty ∧ (textZ [(lb : Int)]).size + (fl.getD i ByteArray.empty).size ≤ 100 from fun i hi => by
          have h1 := congrArg (fun l => l.getD i ByteArray.empty) HMP.out
          simp only [List.getD_eq_getElem?_getD, List.getElem?_map, List.getElem?_take_of_lt hi] at h1
          rw [List.getElem?_eq_getElem (show i < fl.length by omega)] at h1
          have h2 : textZ [(lb : Int)] ++ fl.getD i ByteArray.empty = l'.getD i ByteArray.empty := by
            rw [List.getD_eq_getElem?_getD, List.getD_eq_getElem?_getD, List.getElem?_eq_getElem (show i < fl.length by omega)]
            simpa using h1
          refine ⟨h2, ?_⟩
          rw [← ByteArray.size_append, h2]
          exact hO'.out.sz _ (getD_tx (by have := HK.out.2; omega)))
        clear hmo hb5 F4 H4 CI4 y2 x1 HMP hfl hfn
        go_wp2_with fail
        go_loopw [7, 13] (fun ov kv wq => ∃ (i : Nat) (oa2 : Option Addr) (oc2 on2 : Nat) (out2 : List Tx), i ≤ fn ∧ on2 = out2.length ∧ ov = .slice oa2 on2 oc2 ∧ kv = .int .i64 i ∧ Hid (out2 = out ++ l'.take i) ∧ Hid (FS w.heap.size w (fun q => (False ∨ ∃ fo, some ⟨b, o, none⟩ = some (⟨q, fo, none⟩ : Addr)) ∨ ∃ fo, ma = some ⟨q, fo, none⟩) oa2 oc2 out2 wq) ∧ Hid (HoldsEd wq (some ⟨b, o, none⟩) m es) ∧ Hid (HoldsT wq ma fn fl)) (fun _ kv _ => fn - (intOf kv).toNat)
        case atStart => exact ⟨0, oa, oc, out.length, out, by omega, rfl, rfl, rfl, Lib.hid (by simp), F5, H5, M5⟩
        case round =>
          obtain ⟨i, oa2, oc2, on2, out2, hi2, hon2, rfl, rfl, hO2, hF2, hH2, hM2⟩ := hrel
          by_cases hil : i < fn
          · obtain ⟨bm, om, rfl, hcm⟩ := hM2.out.at (by omega)
            have xm := hcm i hil
            obtain ⟨hx1, hx2⟩ := HSZ.out i hil
            obtain ⟨xt, hxt⟩ : ∃ t, fl.getD i ByteArray.empty = t := ⟨_, rfl⟩
            rw [hxt] at xm hx1 hx2
            have i1 : (0 : Int) ≤ (i : Int) := by omega
            have i2 : (i : Int) < (fn : Int) := by omega
            obtain ⟨xl, hxl⟩ : ∃ t, l'.getD i ByteArray.empty = t := ⟨_, rfl⟩
            rw [hxl] at hx1
            have HXL := Lib.hid (show out2 ++ [xl] = out ++ l'.take (i + 1) from by
              rw [take_tx l' i (by have := HK.out.2; omega), hxl, hO2.out, List.append_assoc])
            have hol : out2.length ≤ 200 := by rw [hO2.out, List.length_append, List.length_take]; omega
            subst hon2
            have hbl := hF2.out.bl
            have XLT := Lib.hid (lt_of_cell xm)
            clear hcm hxt hxl
            go_wp2_with (at_builtin; refine wpList_append_lies _ rfl (.tmp 58) (.tmp 65) 22 rfl w.heap.size 9 i0 _ 1 16 Try.underlying22 hi hz0 hz1 hz2 rfl (by omega) (.slice oa2 out2.length oc2) out2.length (strsV out2) (by rfl) (hF2.out.o.alloc _) ⟨wr.heap.size, 0, none⟩ 1 1 [.string xl] (by rfl) (by rfl) (World.news_of_block (cs := #[.string xl]) (t := 9) (fr := (0, 0)) (heap_alloc_new wr _)) (by simp [Value.oneCell']) (by omega) (by unfold maxLen; omega) (by omega) (by simp; omega) (wr.heap.size + 1) (by simp) ?_; intro g3 c3' w3 hown3 hgrow3 hat3 hlt3; have GR := Lib.hid (hF2.out.grow hown3 hgrow3 (hat3.imp id (fun e => by simp; exact e))); clear hown3 hgrow3 hat3 hlt3)
            go_roundw
            case rel => exact ⟨i + 1, some ⟨g3, 0, none⟩, c3', out2.length + 1, out2 ++ [xl], by omega, by simp, rfl, by go_num, HXL, Lib.hid GR.out.1, Lib.hid (holdsEd_blocks hH2.out (fun fb fo e => GR.out.2.block fb (hF2.out.kl fb (Or.inl (Or.inr ⟨fo, e⟩))) (fun e2 => hF2.out.no fb e2 (Or.inl (Or.inr ⟨fo, e⟩))))), Lib.hid (holdsT_turn hM2.out GR.out.2 (fun _ fb fo e e2 => hF2.out.no fb e2 (Or.inr ⟨fo, e⟩)))⟩
            case measure => simp [intOf] <;> omega
          · obtain rfl : i = fn := by omega
            go_wp2_with fail
            go_roundw
            case rel => exact ⟨j + 1, oa2, oc2, on2, out2, l'.drop i, by omega, hon2, rfl, by go_num, Lib.hid (by rw [hO2.out, hL.out, List.append_assoc, List.take_append_drop]), HE2, Lib.hid (hO'.out.drop _), Lib.hid (fun t ht => hP.out t (List.mem_of_mem_drop ht)), Lib.hid (hF2.out.less (fun q hq => Or.inl hq)), hH2⟩
            case measure => simp [intOf] <;> omega
      · obtain rfl : j = m := by omega
        have hE2 := hE.out
        rw [List.drop_of_length_le (by have := HM.out; omega)] at hE2
        obtain rfl : l' = [] := hE2
        have hl2 := hL.out
        rw [List.append_nil] at hl2
        subst hl2
        subst hon
        go_wp2_with fail
        go_ret
        exact ⟨oa, oc, rfl, hF.out.o, hF.out.b⟩
theorem from_any (g : Nat) (st : List GN) (ts : List Tx) (G : GOk st ts) : ∀ f, FromAny g st ts f := by
  intro f
  induction f with
  | zero => exact from_step g st ts G 0 (fun f' e => by omega)
  | succ f ih => exact from_step g st ts G (f + 1) (fun f' e => by
      obtain rfl : f = f' := by omega
      exact ih)
end Go.Proofs.Ytmmliepkcgdnlaa
/- graph: a list of lists that grows -/
namespace Go.Proofs.Ytmmliepkcgdnlaa
open Go.RowKit
set_option linter.unusedVariables false
set_option maxRecDepth 20000
structure RW where
  a : Option Addr
  c : Nat
  l : List Tx
def rw0 : RW := ⟨none, 0, []⟩
def rwV (rows : List RW) : List Value := rows.map (fun x => .slice x.a x.l.length x.c)
theorem lists_info : (Try.prog.info? 22).map (fun i => (i.zero, i.size, i.bytes)) = some (some (.slice none 0 0), 1, 24) := by kernel_rfl
structure RS (B : Nat) (w0 : World) (oa : Option Addr) (oc : Nat) (rows : List RW) (w : World) : Prop where
  o : w.ownsRow B 22 1 (.slice oa rows.length oc) rows.length (rwV rows)
  h : ∀ x ∈ rows, HoldsT w x.a x.l.length x.l ∧ ∀ q fo, x.a = some ⟨q, fo, none⟩ → q < w.heap.size ∧ oa ≠ some ⟨q, 0, none⟩
  b : Below B w0 w
  bl : B ≤ w.heap.size
theorem RS.more {B : Nat} {w0 : World} {oa : Option Addr} {oc : Nat} {rows : List RW} {w w' : World} (h : RS B w0 oa oc rows w) (hb : Below w.heap.size w w') : RS B w0 oa oc rows w' :=
  ⟨owns_below h.o hb, fun x hx => ⟨(h.h x hx).1.below hb, fun q fo e => ⟨Nat.lt_of_lt_of_le ((h.h x hx).2 q fo e).1 hb.size, ((h.h x hx).2 q fo e).2⟩⟩, h.b.trans (hb.mono h.bl), Nat.le_trans h.bl hb.size⟩
theorem RS.start (w : World) : RS w.heap.size w none 0 [] w := ⟨World.ownsRow_nil _ _ _ _, fun x hx => by simp at hx, Below.refl _ _, Nat.le_refl _⟩
theorem RS.grow {B : Nat} {w0 : World} {oa : Option Addr} {oc : Nat} {rows : List RW} {y : RW} {w w6 : World} {q cap : Nat} {o : Obj} (h : RS B w0 oa oc rows w) (hy : HoldsT w y.a y.l.length y.l) (hyb : ∀ q fo, y.a = some ⟨q, fo, none⟩ → q < w.heap.size ∧ oa ≠ some ⟨q, 0, none⟩)
    (own : w6.ownsRow B 22 1 (.slice (some ⟨q, 0, none⟩) (rows.length + 1) cap) (rows.length + 1) (rwV rows ++ [.slice y.a y.l.length y.c]))
    (hg : (w.alloc o).grownBy w6 (Value.slice oa rows.length oc).ownBlock) (hat : (Value.slice oa rows.length oc).ownBlock = some q ∨ q = (w.alloc o).heap.size) :
    RS B w0 (some ⟨q, 0, none⟩) cap (rows ++ [y]) w6 := by
  have hza : (w.alloc o).heap.size = w.heap.size + 1 := by simp
  have hz6 := hg.size
  have t : Turn (fun k => oa = some ⟨k, 0, none⟩) w w6 := ⟨hg.os, hg.tape, hg.output, by omega, fun k hk hn =>
    (hg.block k (by omega) (fun e => hn (gown_at h.o e))).trans (Below.heap_alloc _ _ _ (by omega))⟩
  have hlen : (rows ++ [y]).length = rows.length + 1 := by simp
  have hv : rwV (rows ++ [y]) = rwV rows ++ [.slice y.a y.l.length y.c] := by simp [rwV]
  have key : ∀ x : RW, HoldsT w x.a x.l.length x.l → (∀ q fo, x.a = some ⟨q, fo, none⟩ → q < w.heap.size ∧ oa ≠ some ⟨q, 0, none⟩) → HoldsT w6 x.a x.l.length x.l ∧ ∀ r fo, x.a = some ⟨r, fo, none⟩ → r < w6.heap.size ∧ (some ⟨q, 0, none⟩ : Option Addr) ≠ some ⟨r, 0, none⟩ := fun x h1 h2 =>
    ⟨holdsT_turn h1 t (fun _ fb fo e e2 => (h2 fb fo e).2 e2), fun r fo e => ⟨by have := (h2 r fo e).1; omega, fun e2 => by
      injection e2 with e2; injection e2 with e2; subst e2
      rcases hat with e3 | e3
      · exact (h2 q fo e).2 (gown_at h.o e3.symm)
      · have := (h2 q fo e).1; omega⟩⟩
  refine ⟨by rw [hlen, hv]; exact own, fun x hx => ?_, h.b.trans (t.below (fun k hk => (h.o.lt k (by rw [hk]; rfl)).1) h.bl), by have := h.bl; omega⟩
  rcases List.mem_append.1 hx with hx | hx
  · exact key x (h.h x hx).1 (h.h x hx).2
  · simp only [List.mem_singleton] at hx
    subst hx
    exact key _ hy hyb
end Go.Proofs.Ytmmliepkcgdnlaa
/- graph: no two nodes have the same rests -/
namespace Go.Proofs.Ytmmliepkcgdnlaa
open Go.RowKit
set_option linter.unusedVariables false
set_option maxRecDepth 20000
set_option maxHeartbeats 3200000 in
theorem graphLeast_pos (a : Option Addr) (n cap : Nat) (ts : List Tx) (w : World) (hh : HoldsT w a n ts) (hc : n ≤ cap) (hn : n ≤ 9223372036854775807) (hsz : ∀ t ∈ ts, t.size ≤ 9223372036854775807) (HP : Hid (0 < n)) :
    Calls Try.prog 5 #[.slice a n cap] w fun e w' => e = .returned (.bool true) ∧ Below w.heap.size w w' := by
  have CG := Lib.hid (great_any a n cap ts w hh hn hsz)
  have HH := Lib.hid hh
  have HL := Lib.hid hh.len
  by_cases q0 : greatB ts = true
  · rw [q0] at CG
    go_enter Try.func5, Try.ntmps5
    go_wp2_with fail
    refine CG.out.mono ?_
    rintro e w1 ⟨rfl, hb⟩
    have B1 := Lib.hid hb
    clear hb
    go_wp2_with fail
    refine (awakeG_any _).mono ?_
    rintro e w' ⟨rfl, hb⟩
    have B2 := Lib.hid (B1.out.trans (hb.mono B1.out.size))
    clear hb
    go_wp2_with fail
    go_ret
    exact ⟨rfl, B2.out⟩
  have q0' : greatB ts = false := by simpa using q0
  rw [q0'] at CG
  by_cases q1 : 40 < n
  · have d1 : decide ((40 : Int) < (n : Int)) = true := decide_eq_true (by omega)
    go_enter Try.func5, Try.ntmps5
    go_wp2_with fail
    refine CG.out.mono ?_
    rintro e w1 ⟨rfl, hb⟩
    have B1 := Lib.hid hb
    clear hb
    go_wp2_with fail
    refine (awakeG_any _).mono ?_
    rintro e w' ⟨rfl, hb⟩
    have B2 := Lib.hid (B1.out.trans (hb.mono B1.out.size))
    clear hb
    go_wp2_with fail
    go_ret
    exact ⟨rfl, B2.out⟩
  have d1 : decide ((40 : Int) < (n : Int)) = false := decide_eq_false (by omega)
  obtain ⟨l80, hsm⟩ := great_no_iff.1 q0'
  have hsm : ∀ t ∈ ts, t.size ≤ 100 := hsm
  by_cases q2 : goodV ts = 0
  · have OK := Lib.hid (grS_ok q2 hsm)
    have GE := Lib.hid (fun (x : GN) hx => (show x.edges.length ≤ 1000 from by have := OK.out.few x hx; omega))
    have LO := Lib.hid (fun t (ht : t ∈ ts) => (show 0 ≤ lenS t from (ok_good q2 hsm).lo t ht))
    have SO := Lib.hid (show SortedS ts from (ok_good q2 hsm).ord)
    have CB := Lib.hid (fun (w1 : World) (hb : Below w.heap.size w w1) => build_c (w0 := w) a n cap ts _ w1 hb (HH.out.below hb) hc hn hsm q2 rfl)
    have LB := grS_len q2 hsm
    generalize grS ts = st at *
    obtain ⟨nn, hnn⟩ : ∃ nn, st.length = nn := ⟨_, rfl⟩
    have HNN := Lib.hid hnn
    rw [hnn] at LB
    obtain ⟨i0, hi, hz0, hz1, hz2⟩ := info_parts lists_info
    have RL' := Lib.hid (show (restsG st).length = nn from by rw [restsG, List.length_map, hnn])
    have AW := Lib.hid (fun w => awakeG_any w)
    clear q0 q0' hsm hh q2 hsz
    go_enter Try.func5, Try.ntmps5
    go_wp2_with fail
    refine CG.out.mono ?_
    rintro e w1 ⟨rfl, hb⟩
    have B1 := Lib.hid hb
    clear hb CG
    go_wp2_with fail
    refine (CB.out w1 B1.out).mono ?_
    rintro e w2 ⟨g, S, rfl, C, -⟩
    have C2 := Lib.hid C
    have CN := Lib.hid (gNodes_c (nn : Int) w2 C (by rw [hnn]))
    clear C B1 CB hnn
    go_wp2_with fail
    refine CN.out.mono ?_
    rintro e w3 ⟨rfl, rfl⟩
    clear CN
    go_wp2_with fail
    go_loopw [6, 7] (fun ov iv wr => ∃ (j : Nat) (oa : Option Addr) (oc jn : Nat) (rows : List RW), j ≤ nn ∧ jn = rows.length ∧ ov = .slice oa jn oc ∧ iv = .int .i64 j ∧ Hid (rows.map RW.l = (restsG st).take j) ∧ Hid (RS w2.heap.size w2 oa oc rows wr)) (fun _ iv _ => nn - (intOf iv).toNat)
    case atStart => exact ⟨0, none, 0, 0, [], by omega, rfl, rfl, rfl, Lib.hid (by simp), Lib.hid (RS.start w2)⟩
    case round =>
      obtain ⟨j, oa, oc, jn, rows, hj, hjn, rfl, rfl, hM, hR⟩ := hrel
      have hjr : jn = j := by
        have h1 := congrArg List.length hM.out
        rw [List.length_map, List.length_take, RL'.out] at h1
        omega
      by_cases hlt : j < nn
      · have hlt2 : j < (restsG st).length := by rw [RL'.out]; exact hlt
        obtain ⟨lj, hlj⟩ : ∃ v, (restsG st)[j] = v := ⟨_, rfl⟩
        have hRj : (restsG st)[j]? = some lj := by rw [List.getElem?_eq_getElem hlt2, hlj]
        obtain ⟨k1, k2, k3⟩ := OK.out.node hRj
        have hOj : OkL 12 lj := k2 ▸ k3.ok
        have CFR := Lib.hid (from_any g st ts OK.out 12 j lj 13 S wr hRj hOj (C2.out.more hR.out.b).G (by omega) (by omega))
        have hln := hOj.n
        have HEM := Lib.hid (show lj.length = 0 → n = 0 from fun h => by
          have h2 : lj = [] := List.eq_nil_of_length_eq_zero h
          have h3 : ts = [] := Classical.byContradiction fun hne => by
            have hm : st.getD j gn0 ∈ st := by rw [List.getD_eq_getElem?_getD, List.getElem?_eq_getElem k1]; simp
            exact OK.out.some_ hne _ hm (k2.trans h2)
          rw [← HL.out, h3]; rfl)
        have HND := Lib.hid (show ∀ (i : Nat) (x : RW), rows[i]? = some x → i < j → decide (x.l = lj) = false from fun i x hx hi2 => decide_eq_false (fun e => by
          have h1 : (rows.map RW.l)[i]? = some x.l := by rw [List.getElem?_map, hx]; rfl
          rw [hM.out, List.getElem?_take_of_lt hi2] at h1
          obtain ⟨h2, h3⟩ := List.getElem?_eq_some_iff.1 h1
          have h4 := (List.pairwise_iff_getElem.1 OK.out.nodup) i j h2 hlt2 hi2
          exact h4 (h3.trans (e.trans hlj.symm))))
        have HXN := Lib.hid (show ∀ x ∈ rows, x.l.length ≤ 100 from fun x hx => by
          have h1 : x.l ∈ rows.map RW.l := List.mem_map_of_mem hx
          rw [hM.out] at h1
          obtain ⟨gn, hg, e⟩ := List.mem_map.1 (List.mem_of_mem_take h1)
          have h2 := (OK.out.nodes gn hg).ok.n
          rw [e] at h2; exact h2)
        have HSN := Lib.hid (show rows.map RW.l ++ [lj] = (restsG st).take (j + 1) from by
          rw [hM.out, List.take_add_one, hRj]; rfl)
        have n1 : (0 : Int) ≤ (j : Int) := by omega
        clear k1 k2 k3 hOj hRj hlj hM
        go_wp2_with fail
        refine CFR.out.mono ?_
        rintro e w4 ⟨ra, rc, rfl, ho, hb⟩
        have R4 := Lib.hid (hR.out.more hb)
        have H4 := Lib.hid (HoldsT.own ho)
        have HY := Lib.hid (show ∀ q fo, ra = some ⟨q, fo, none⟩ → q < w4.heap.size ∧ oa ≠ some ⟨q, 0, none⟩ from fun q fo e => ⟨(own_blockG ho e).2, fun e2 => by
          have h1 := (own_blockG ho e).1
          have h2 := (hR.out.o.lt q (by rw [e2]; rfl)).2
          omega⟩)
        clear ho hb CFR hR
        go_wp2_with fail
        go_loopw [9] (fun kv wq => ∃ (k : Nat), k ≤ j ∧ kv = .int .i64 k ∧ Hid (RS w2.heap.size w2 oa oc rows wq) ∧ Hid (HoldsT wq ra lj.length lj) ∧ Hid (∀ q fo, ra = some ⟨q, fo, none⟩ → q < wq.heap.size ∧ oa ≠ some ⟨q, 0, none⟩)) (fun kv _ => j - (intOf kv).toNat)
        case atStart => exact ⟨0, by omega, rfl, R4, H4, HY⟩
        case round =>
          obtain ⟨k, hk, rfl, hR5, hH5, hY5⟩ := hrel
          by_cases hkl : k < j
          · have hkr : k < rows.length := by omega
            obtain ⟨x, hx⟩ : ∃ x, rows[k]? = some x := ⟨_, List.getElem?_eq_getElem hkr⟩
            have hxm : x ∈ rows := List.mem_of_getElem? hx
            obtain ⟨ob, ocap, hv⟩ := Joins.ownsRow_form hR5.out.o (by omega)
            simp only [Value.slice.injEq] at hv
            obtain ⟨hv, -, -⟩ := hv
            subst hv
            have xc := (hR5.out.o.cellAt k (by omega)).trans (show (rwV rows)[k]? = some (.slice x.a x.l.length x.c) from by unfold rwV; rw [List.getElem?_map, hx]; rfl)
            have CS := Lib.hid (sameTexts_any x.a ra x.l.length x.c lj.length rc x.l lj wr (hR5.out.h x hxm).1 hH5.out (by have := HXN.out x hxm; omega) (by omega))
            rw [HND.out k x hx hkl] at CS
            have k1 : (0 : Int) ≤ (k : Int) := by omega
            have k2 : (k : Int) < (rows.length : Int) := by omega
            clear hx hxm
            go_wp2_with fail
            refine CS.out.mono ?_
            rintro e w6 ⟨rfl, mm, rfl⟩
            have R6 := Lib.hid (hR5.out.more (below_drewN wr mm))
            have H6 := Lib.hid (hH5.out.below (below_drewN wr mm))
            have Y6 := Lib.hid (show ∀ q fo, ra = some ⟨q, fo, none⟩ → q < (wr.drewN mm).heap.size ∧ some (⟨ob, 0, none⟩ : Addr) ≠ some ⟨q, 0, none⟩ from fun q fo e => ⟨Nat.lt_of_lt_of_le (hY5.out q fo e).1 (below_drewN wr mm).size, (hY5.out q fo e).2⟩)
            go_wp2_with fail
            go_roundw
            case rel => exact ⟨k + 1, by omega, by go_num, R6, H6, Y6⟩
            case measure => simp [intOf] <;> omega
          · obtain rfl : k = j := by omega
            have hbl := hR5.out.bl
            have hjn2 : rows.length ≤ 2000 := by omega
            by_cases h0 : lj.length = 0
            · exact absurd (HEM.out h0) (by have := HP.out; omega)
            · have b0 : ((lj.length : Int) == 0) = false := by rw [beq_eq_false_iff_ne]; omega
              have h0' := Lib.hid h0
              clear h0
              go_wp2_with (at_builtin; refine wpList_append_lies _ rfl (.tmp 64) (.tmp 66) 51 rfl w2.heap.size 22 i0 _ 1 24 Try.underlying51 hi hz0 hz1 hz2 rfl (by omega) (.slice oa rows.length oc) rows.length (rwV rows) (by rfl) (hR5.out.o.alloc _) ⟨wr.heap.size, 0, none⟩ 1 1 [.slice ra lj.length rc] (by rfl) (by rfl) (World.news_of_block (cs := #[.slice ra lj.length rc]) (t := 22) (fr := (0, 0)) (heap_alloc_new wr _)) (by simp [Value.oneCell']) (by omega) (by unfold maxLen; omega) (by omega) (by simp; omega) (wr.heap.size + 1) (by simp) ?_; intro g3 c3' w8 hown3 hgrow3 hat3 hlt3; have GR := Lib.hid (hR5.out.grow (y := ⟨ra, rc, lj⟩) hH5.out hY5.out hown3 hgrow3 (hat3.imp id (fun e => by simp; exact e))); clear hown3 hgrow3 hat3 hlt3)
              go_roundw
              case rel => exact ⟨k + 1, some ⟨g3, 0, none⟩, c3', rows.length + 1, rows ++ [⟨ra, rc, lj⟩], by omega, by simp, rfl, by go_num, Lib.hid (by rw [List.map_append]; exact HSN.out), GR⟩
              case measure => simp [intOf] <;> omega
      · obtain rfl : j = nn := by omega
        have h1n : 0 < rows.length := by
          have h1 := (List.getElem?_eq_some_iff.1 OK.out.root).1
          rw [RL'.out] at h1; omega
        obtain ⟨x, hx⟩ : ∃ x, rows[0]? = some x := ⟨_, List.getElem?_eq_getElem h1n⟩
        have hxm : x ∈ rows := List.mem_of_getElem? hx
        have hxl : x.l = ts := by
          have h1 : (rows.map RW.l)[0]? = some x.l := by rw [List.getElem?_map, hx]; rfl
          rw [hM.out, List.getElem?_take_of_lt (by omega), OK.out.root] at h1
          injection h1 with h1; exact h1.symm
        obtain ⟨ob, ocap, hv⟩ := Joins.ownsRow_form hR.out.o h1n
        simp only [Value.slice.injEq] at hv
        obtain ⟨hv, -, -⟩ := hv
        subst hv
        have xc := (hR.out.o.cellAt 0 (by omega)).trans (show (rwV rows)[0]? = some (.slice x.a x.l.length x.c) from by unfold rwV; rw [List.getElem?_map, hx]; rfl)
        have hxh := (hR.out.h x hxm).1
        rw [hxl] at hxh xc
        have hL2 := HL.out
        rw [hL2] at hxh xc
        have CX := C2.out.more hR.out.b
        have CS := Lib.hid (sameTexts_yes x.a a n x.c cap ts wr hxh (HH.out.below CX.b) (by omega))
        have BX := Lib.hid CX.b
        have k2 : (0 : Int) < (rows.length : Int) := by omega
        have k3 : decide ((j : Int) ≥ 1) = true := decide_eq_true (by omega)
        clear hx hxm hxl hM hL2 CX hxh
        go_wp2_with fail
        refine CS.out.mono ?_
        rintro e w6 ⟨rfl, hb⟩
        have B6 := Lib.hid (BX.out.trans (hb.mono BX.out.size))
        clear hb
        go_wp2_with fail
        refine (AW.out _).mono ?_
        rintro e w' ⟨rfl, hb⟩
        have B7 := Lib.hid (B6.out.trans (hb.mono B6.out.size))
        clear hb
        go_wp2_with fail
        go_ret
        exact ⟨rfl, B7.out⟩
  · obtain ⟨v, hv⟩ : ∃ v, goodV ts = v := ⟨_, rfl⟩
    have hv0 : v ≠ 0 := by rw [← hv]; exact q2
    have CB := Lib.hid (fun (w1 : World) (hb : Below w.heap.size w w1) => build_bad a n cap ts v w1 (HH.out.below hb) hn hsz hv hv0)
    have hb1 : (v != 0) = true := by simpa using hv0
    clear hv q2
    go_enter Try.func5, Try.ntmps5
    go_wp2_with fail
    refine CG.out.mono ?_
    rintro e w1 ⟨rfl, hb⟩
    have B1 := Lib.hid hb
    clear hb CG
    go_wp2_with fail
    refine (CB.out w1 B1.out).mono ?_
    rintro e w2 ⟨rfl, hb⟩
    have B2 := Lib.hid (B1.out.trans (hb.mono B1.out.size))
    clear hb B1
    go_wp2_with fail
    refine (awakeG_any _).mono ?_
    rintro e w' ⟨rfl, hb⟩
    have B3 := Lib.hid (B2.out.trans (hb.mono B2.out.size))
    clear hb
    go_wp2_with fail
    go_ret
    exact ⟨rfl, B3.out⟩
end Go.Proofs.Ytmmliepkcgdnlaa
/- graph: no two nodes have the same rests -/
namespace Go.Proofs.Ytmmliepkcgdnlaa
open Go.RowKit
set_option linter.unusedVariables false
set_option maxRecDepth 20000
set_option maxHeartbeats 3200000 in
theorem graphLeast_zero (a : Option Addr) (n cap : Nat) (ts : List Tx) (w : World) (hh : HoldsT w a n ts) (hc : n ≤ cap) (hn : n ≤ 9223372036854775807) (hsz : ∀ t ∈ ts, t.size ≤ 9223372036854775807) (hzn : n = 0) :
    Calls Try.prog 5 #[.slice a n cap] w fun e w' => e = .returned (.bool true) ∧ Below w.heap.size w w' := by
  subst hzn
  have CG := Lib.hid (great_any a 0 cap ts w hh hn hsz)
  have HH := Lib.hid hh
  have HL := Lib.hid hh.len
  by_cases q0 : greatB ts = true
  · rw [q0] at CG
    go_enter Try.func5, Try.ntmps5
    go_wp2_with fail
    refine CG.out.mono ?_
    rintro e w1 ⟨rfl, hb⟩
    have B1 := Lib.hid hb
    clear hb
    go_wp2_with fail
    refine (awakeG_any _).mono ?_
    rintro e w' ⟨rfl, hb⟩
    have B2 := Lib.hid (B1.out.trans (hb.mono B1.out.size))
    clear hb
    go_wp2_with fail
    go_ret
    exact ⟨rfl, B2.out⟩
  have q0' : greatB ts = false := by simpa using q0
  rw [q0'] at CG
  have d1 : decide ((40 : Int) < ((0 : Nat) : Int)) = false := decide_eq_false (by omega)
  obtain ⟨l80, hsm⟩ := great_no_iff.1 q0'
  have hsm : ∀ t ∈ ts, t.size ≤ 100 := hsm
  by_cases q2 : goodV ts = 0
  · have OK := Lib.hid (grS_ok q2 hsm)
    have GE := Lib.hid (fun (x : GN) hx => (show x.edges.length ≤ 1000 from by have := OK.out.few x hx; omega))
    have LO := Lib.hid (fun t (ht : t ∈ ts) => (show 0 ≤ lenS t from (ok_good q2 hsm).lo t ht))
    have SO := Lib.hid (show SortedS ts from (ok_good q2 hsm).ord)
    have CB := Lib.hid (fun (w1 : World) (hb : Below w.heap.size w w1) => build_c (w0 := w) a 0 cap ts _ w1 hb (HH.out.below hb) hc hn hsm q2 rfl)
    have LB := grS_len q2 hsm
    generalize grS ts = st at *
    obtain ⟨nn, hnn⟩ : ∃ nn, st.length = nn := ⟨_, rfl⟩
    have HNN := Lib.hid hnn
    rw [hnn] at LB
    obtain ⟨i0, hi, hz0, hz1, hz2⟩ := info_parts lists_info
    have RL' := Lib.hid (show (restsG st).length = nn from by rw [restsG, List.length_map, hnn])
    have AW := Lib.hid (fun w => awakeG_any w)
    clear q0 q0' hsm hh q2 hsz
    go_enter Try.func5, Try.ntmps5
    go_wp2_with fail
    refine CG.out.mono ?_
    rintro e w1 ⟨rfl, hb⟩
    have B1 := Lib.hid hb
    clear hb CG
    go_wp2_with fail
    refine (CB.out w1 B1.out).mono ?_
    rintro e w2 ⟨g, S, rfl, C, -⟩
    have C2 := Lib.hid C
    have CN := Lib.hid (gNodes_c (nn : Int) w2 C (by rw [hnn]))
    clear C B1 CB hnn
    go_wp2_with fail
    refine CN.out.mono ?_
    rintro e w3 ⟨rfl, rfl⟩
    clear CN
    go_wp2_with fail
    go_loopw [6, 7] (fun ov iv wr => ∃ (j : Nat) (oa : Option Addr) (oc jn : Nat) (rows : List RW), j ≤ nn ∧ jn = rows.length ∧ ov = .slice oa jn oc ∧ iv = .int .i64 j ∧ Hid (rows.map RW.l = (restsG st).take j) ∧ Hid (RS w2.heap.size w2 oa oc rows wr)) (fun _ iv _ => nn - (intOf iv).toNat)
    case atStart => exact ⟨0, none, 0, 0, [], by omega, rfl, rfl, rfl, Lib.hid (by simp), Lib.hid (RS.start w2)⟩
    case round =>
      obtain ⟨j, oa, oc, jn, rows, hj, hjn, rfl, rfl, hM, hR⟩ := hrel
      have hjr : jn = j := by
        have h1 := congrArg List.length hM.out
        rw [List.length_map, List.length_take, RL'.out] at h1
        omega
      by_cases hlt : j < nn
      · have hlt2 : j < (restsG st).length := by rw [RL'.out]; exact hlt
        obtain ⟨lj, hlj⟩ : ∃ v, (restsG st)[j] = v := ⟨_, rfl⟩
        have hRj : (restsG st)[j]? = some lj := by rw [List.getElem?_eq_getElem hlt2, hlj]
        obtain ⟨k1, k2, k3⟩ := OK.out.node hRj
        have hOj : OkL 12 lj := k2 ▸ k3.ok
        have CFR := Lib.hid (from_any g st ts OK.out 12 j lj 13 S wr hRj hOj (C2.out.more hR.out.b).G (by omega) (by omega))
        have hln := hOj.n
        have HND := Lib.hid (show ∀ (i : Nat) (x : RW), rows[i]? = some x → i < j → decide (x.l = lj) = false from fun i x hx hi2 => decide_eq_false (fun e => by
          have h1 : (rows.map RW.l)[i]? = some x.l := by rw [List.getElem?_map, hx]; rfl
          rw [hM.out, List.getElem?_take_of_lt hi2] at h1
          obtain ⟨h2, h3⟩ := List.getElem?_eq_some_iff.1 h1
          have h4 := (List.pairwise_iff_getElem.1 OK.out.nodup) i j h2 hlt2 hi2
          exact h4 (h3.trans (e.trans hlj.symm))))
        have HXN := Lib.hid (show ∀ x ∈ rows, x.l.length ≤ 100 from fun x hx => by
          have h1 : x.l ∈ rows.map RW.l := List.mem_map_of_mem hx
          rw [hM.out] at h1
          obtain ⟨gn, hg, e⟩ := List.mem_map.1 (List.mem_of_mem_take h1)
          have h2 := (OK.out.nodes gn hg).ok.n
          rw [e] at h2; exact h2)
        have HSN := Lib.hid (show rows.map RW.l ++ [lj] = (restsG st).take (j + 1) from by
          rw [hM.out, List.take_add_one, hRj]; rfl)
        have n1 : (0 : Int) ≤ (j : Int) := by omega
        clear k1 k2 k3 hOj hRj hlj hM
        go_wp2_with fail
        refine CFR.out.mono ?_
        rintro e w4 ⟨ra, rc, rfl, ho, hb⟩
        have R4 := Lib.hid (hR.out.more hb)
        have H4 := Lib.hid (HoldsT.own ho)
        have HY := Lib.hid (show ∀ q fo, ra = some ⟨q, fo, none⟩ → q < w4.heap.size ∧ oa ≠ some ⟨q, 0, none⟩ from fun q fo e => ⟨(own_blockG ho e).2, fun e2 => by
          have h1 := (own_blockG ho e).1
          have h2 := (hR.out.o.lt q (by rw [e2]; rfl)).2
          omega⟩)
        clear ho hb CFR hR
        go_wp2_with fail
        go_loopw [9] (fun kv wq => ∃ (k : Nat), k ≤ j ∧ kv = .int .i64 k ∧ Hid (RS w2.heap.size w2 oa oc rows wq) ∧ Hid (HoldsT wq ra lj.length lj) ∧ Hid (∀ q fo, ra = some ⟨q, fo, none⟩ → q < wq.heap.size ∧ oa ≠ some ⟨q, 0, none⟩)) (fun kv _ => j - (intOf kv).toNat)
        case atStart => exact ⟨0, by omega, rfl, R4, H4, HY⟩
        case round =>
          obtain ⟨k, hk, rfl, hR5, hH5, hY5⟩ := hrel
          by_cases hkl : k < j
          · have hkr : k < rows.length := by omega
            obtain ⟨x, hx⟩ : ∃ x, rows[k]? = some x := ⟨_, List.getElem?_eq_getElem hkr⟩
            have hxm : x ∈ rows := List.mem_of_getElem? hx
            obtain ⟨ob, ocap, hv⟩ := Joins.ownsRow_form hR5.out.o (by omega)
            simp only [Value.slice.injEq] at hv
            obtain ⟨hv, -, -⟩ := hv
            subst hv
            have xc := (hR5.out.o.cellAt k (by omega)).trans (show (rwV rows)[k]? = some (.slice x.a x.l.length x.c) from by unfold rwV; rw [List.getElem?_map, hx]; rfl)
            have CS := Lib.hid (sameTexts_any x.a ra x.l.length x.c lj.length rc x.l lj wr (hR5.out.h x hxm).1 hH5.out (by have := HXN.out x hxm; omega) (by omega))
            rw [HND.out k x hx hkl] at CS
            have k1 : (0 : Int) ≤ (k : Int) := by omega
            have k2 : (k : Int) < (rows.length : Int) := by omega
            clear hx hxm
            go_wp2_with fail
            refine CS.out.mono ?_
            rintro e w6 ⟨rfl, mm, rfl⟩
            have R6 := Lib.hid (hR5.out.more (below_drewN wr mm))
            have H6 := Lib.hid (hH5.out.below (below_drewN wr mm))
            have Y6 := Lib.hid (show ∀ q fo, ra = some ⟨q, fo, none⟩ → q < (wr.drewN mm).heap.size ∧ some (⟨ob, 0, none⟩ : Addr) ≠ some ⟨q, 0, none⟩ from fun q fo e => ⟨Nat.lt_of_lt_of_le (hY5.out q fo e).1 (below_drewN wr mm).size, (hY5.out q fo e).2⟩)
            go_wp2_with fail
            go_roundw
            case rel => exact ⟨k + 1, by omega, by go_num, R6, H6, Y6⟩
            case measure => simp [intOf] <;> omega
          · obtain rfl : k = j := by omega
            have hbl := hR5.out.bl
            have hjn2 : rows.length ≤ 2000 := by omega
            by_cases h0 : lj.length = 0
            · have b0 : ((lj.length : Int) == 0) = true := by rw [h0]; rfl
              have h0' := Lib.hid h0
              clear h0
              go_wp2_with (at_builtin; refine wpList_append_lies _ rfl (.tmp 64) (.tmp 66) 51 rfl w2.heap.size 22 i0 _ 1 24 Try.underlying51 hi hz0 hz1 hz2 rfl (by omega) (.slice oa rows.length oc) rows.length (rwV rows) (by rfl) (hR5.out.o.alloc _) ⟨wr.heap.size, 0, none⟩ 1 1 [.slice ra lj.length rc] (by rfl) (by rfl) (World.news_of_block (cs := #[.slice ra lj.length rc]) (t := 22) (fr := (0, 0)) (heap_alloc_new wr _)) (by simp [Value.oneCell']) (by omega) (by unfold maxLen; omega) (by omega) (by simp; omega) (wr.heap.size + 1) (by simp) ?_; intro g3 c3' w8 hown3 hgrow3 hat3 hlt3; have GR := Lib.hid (hR5.out.grow (y := ⟨ra, rc, lj⟩) hH5.out hY5.out hown3 hgrow3 (hat3.imp id (fun e => by simp; exact e))); clear hown3 hgrow3 hat3 hlt3)
              go_roundw
              case rel => exact ⟨k + 1, some ⟨g3, 0, none⟩, c3', rows.length + 1, rows ++ [⟨ra, rc, lj⟩], by omega, by simp, rfl, by go_num, Lib.hid (by rw [List.map_append]; exact HSN.out), GR⟩
              case measure => simp [intOf] <;> omega
            · have b0 : ((lj.length : Int) == 0) = false := by rw [beq_eq_false_iff_ne]; omega
              have h0' := Lib.hid h0
              clear h0
              go_wp2_with (at_builtin; refine wpList_append_lies _ rfl (.tmp 64) (.tmp 66) 51 rfl w2.heap.size 22 i0 _ 1 24 Try.underlying51 hi hz0 hz1 hz2 rfl (by omega) (.slice oa rows.length oc) rows.length (rwV rows) (by rfl) (hR5.out.o.alloc _) ⟨wr.heap.size, 0, none⟩ 1 1 [.slice ra lj.length rc] (by rfl) (by rfl) (World.news_of_block (cs := #[.slice ra lj.length rc]) (t := 22) (fr := (0, 0)) (heap_alloc_new wr _)) (by simp [Value.oneCell']) (by omega) (by unfold maxLen; omega) (by omega) (by simp; omega) (wr.heap.size + 1) (by simp) ?_; intro g3 c3' w8 hown3 hgrow3 hat3 hlt3; have GR := Lib.hid (hR5.out.grow (y := ⟨ra, rc, lj⟩) hH5.out hY5.out hown3 hgrow3 (hat3.imp id (fun e => by simp; exact e))); clear hown3 hgrow3 hat3 hlt3)
              go_roundw
              case rel => exact ⟨k + 1, some ⟨g3, 0, none⟩, c3', rows.length + 1, rows ++ [⟨ra, rc, lj⟩], by omega, by simp, rfl, by go_num, Lib.hid (by rw [List.map_append]; exact HSN.out), GR⟩
              case measure => simp [intOf] <;> omega
      · obtain rfl : j = nn := by omega
        have h1n : 0 < rows.length := by
          have h1 := (List.getElem?_eq_some_iff.1 OK.out.root).1
          rw [RL'.out] at h1; omega
        obtain ⟨x, hx⟩ : ∃ x, rows[0]? = some x := ⟨_, List.getElem?_eq_getElem h1n⟩
        have hxm : x ∈ rows := List.mem_of_getElem? hx
        have hxl : x.l = ts := by
          have h1 : (rows.map RW.l)[0]? = some x.l := by rw [List.getElem?_map, hx]; rfl
          rw [hM.out, List.getElem?_take_of_lt (by omega), OK.out.root] at h1
          injection h1 with h1; exact h1.symm
        obtain ⟨ob, ocap, hv⟩ := Joins.ownsRow_form hR.out.o h1n
        simp only [Value.slice.injEq] at hv
        obtain ⟨hv, -, -⟩ := hv
        subst hv
        have xc := (hR.out.o.cellAt 0 (by omega)).trans (show (rwV rows)[0]? = some (.slice x.a x.l.length x.c) from by unfold rwV; rw [List.getElem?_map, hx]; rfl)
        have hxh := (hR.out.h x hxm).1
        rw [hxl] at hxh xc
        have hL2 := HL.out
        rw [hL2] at hxh xc
        have CX := C2.out.more hR.out.b
        have CS := Lib.hid (sameTexts_yes x.a a 0 x.c cap ts wr hxh (HH.out.below CX.b) (by omega))
        have BX := Lib.hid CX.b
        have k2 : (0 : Int) < (rows.length : Int) := by omega
        have k3 : decide ((j : Int) ≥ 1) = true := decide_eq_true (by omega)
        clear hx hxm hxl hM hL2 CX hxh
        go_wp2_with fail
        refine CS.out.mono ?_
        rintro e w6 ⟨rfl, hb⟩
        have B6 := Lib.hid (BX.out.trans (hb.mono BX.out.size))
        clear hb
        go_wp2_with fail
        refine (AW.out _).mono ?_
        rintro e w' ⟨rfl, hb⟩
        have B7 := Lib.hid (B6.out.trans (hb.mono B6.out.size))
        clear hb
        go_wp2_with fail
        go_ret
        exact ⟨rfl, B7.out⟩
  · obtain ⟨v, hv⟩ : ∃ v, goodV ts = v := ⟨_, rfl⟩
    have hv0 : v ≠ 0 := by rw [← hv]; exact q2
    have CB := Lib.hid (fun (w1 : World) (hb : Below w.heap.size w w1) => build_bad a 0 cap ts v w1 (HH.out.below hb) hn hsz hv hv0)
    have hb1 : (v != 0) = true := by simpa using hv0
    clear hv q2
    go_enter Try.func5, Try.ntmps5
    go_wp2_with fail
    refine CG.out.mono ?_
    rintro e w1 ⟨rfl, hb⟩
    have B1 := Lib.hid hb
    clear hb CG
    go_wp2_with fail
    refine (CB.out w1 B1.out).mono ?_
    rintro e w2 ⟨rfl, hb⟩
    have B2 := Lib.hid (B1.out.trans (hb.mono B1.out.size))
    clear hb B1
    go_wp2_with fail
    refine (awakeG_any _).mono ?_
    rintro e w' ⟨rfl, hb⟩
    have B3 := Lib.hid (B2.out.trans (hb.mono B2.out.size))
    clear hb
    go_wp2_with fail
    go_ret
    exact ⟨rfl, B3.out⟩
end Go.Proofs.Ytmmliepkcgdnlaa
