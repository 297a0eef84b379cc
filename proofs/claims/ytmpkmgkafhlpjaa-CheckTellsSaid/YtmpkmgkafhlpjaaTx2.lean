/- contract of text.Runes -/
import Derived.Test.YtmpkmgkafhlpjaaTxV
namespace Go.Proofs.Ytmpkmgkafhlpjaa
open Go.RowKit
set_option linter.unusedVariables false
set_option maxRecDepth 20000
set_option maxHeartbeats 800000 in
theorem runes_good (s : ByteArray) (w : World) (hs : s.size ≤ 1048576) (hg : 0 ≤ lenS s) :
    Calls Try.prog 36 #[.string s] w fun e w' => ∃ a c, e = .returned (.tuple #[.slice a (runesS s).length c, .bool true]) ∧ RetR 21 w (intsN (runesS s)) a c w' := by
  obtain ⟨i0, hi, hz0, hz1, hz2⟩ := info_parts i32_info
  obtain ⟨hgood, hlen⟩ := lenS_pos hg
  have hle := runesS_le s
  obtain ⟨n, hn⟩ : ∃ n, (runesS s).length = n := ⟨_, rfl⟩
  rw [hn] at hlen hle ⊢
  have HN := Lib.hid hn; have HLEN := Lib.hid hlen; have HGD := Lib.hid hgood
  clear hn hlen hgood hg
  go_enter Try.func36, Try.ntmps36
  go_wp2_with fail
  refine (len_any s _ (by omega)).mono ?_
  rintro e w1 ⟨rfl, hb1⟩
  rw [HLEN.out]
  have B1 := Lib.hid hb1
  clear hb1
  go_wp2_with (at_make; refine wpList_make_own _ rfl _ _ 52 rfl w.heap.size 21 i0 (.int .i32 0) 1 Try.underlying52 hi hz0 hz1 _ _ _ n rfl rfl (by omega) (by rw [hz2]; omega) (by unfold maxLen; omega) B1.out.size ?_; intro w2 hown2 hgrow2)
  have B2 := Lib.hid (B1.out.trans ((below_grown hgrow2 (by intro k hk; cases hk)).mono B1.out.size))
  have s1 := B1.out.size
  have hlt2 := (hown2.lt w1.heap.size rfl).2
  have O2 := Lib.hid hown2
  clear hown2 hgrow2
  go_loopw [5] (fun v wr => ∃ (pos f : Nat) (P : List Nat), s.size ≤ pos + f ∧ v = .slice (some ⟨w1.heap.size, 0, none⟩) P.length n ∧ Hid (runesS s = P ++ runesN s f pos) ∧
      Hid (wr.ownsRow w.heap.size 21 1 (.slice (some ⟨w1.heap.size, 0, none⟩) P.length n) P.length (runesV (intsN P))) ∧ Hid (wr.heap[w2.heap.size]? = some (.stringIter s pos)) ∧ Hid (Below w.heap.size w wr)) (fun _ wr => s.size - wr.iterPos w2.heap.size)
  case atStart => exact ⟨0, s.size, [], by omega, rfl, Lib.hid rfl, Lib.hid (owns_below O2.out (below_one _ _)), Lib.hid (World.iter_heap w2 s 0), Lib.hid (B2.out.trans ((below_one w2 _).mono B2.out.size))⟩
  case round =>
    obtain ⟨pos, f, P, hf, rfl, hP, hO, hIt, hB⟩ := hrel
    by_cases hlt : pos < s.size
    · have hnx := fun ty => Lib.run_next_any_at (P := Try.prog) wr w2.heap.size s pos ty hIt.out hlt
      obtain ⟨g, rfl, hst, hg⟩ := runesN_step s f pos hlt hf
      have hwd := decode_width s pos hlt
      have hPn : P.length + 1 ≤ n := by
        have h1 := congrArg List.length hP.out
        rw [hst, List.length_append, List.length_cons, HN.out] at h1
        omega
      have HST := Lib.hid hst
      obtain ⟨r, hr⟩ : ∃ r, (Utf8.decode s pos).1 = r := ⟨_, rfl⟩
      obtain ⟨wd, hwd2⟩ : ∃ wd, (Utf8.decode s pos).2 = wd := ⟨_, rfl⟩
      rw [hr, hwd2] at hnx HST; rw [hwd2] at hg hwd
      clear hst hr hwd2
      have hOi := owns_iterAt hO.out hIt.out (pos + wd)
      have OI := Lib.hid hOi
      clear hOi
      go_wp2_with (at_builtin; refine wpList_append_fits _ rfl (.tmp 19) (.tmp 21) 52 rfl w.heap.size 21 i0 1 Try.underlying52 hi hz1 w1.heap.size P.length n _ rfl (OI.out.alloc _) _ 1 1 _ rfl rfl (one_cells _ _ _ _) (one_int _ _) (by omega) ?_; intro w4 hown4 hgrow4)
      have hIt4 : w4.heap[w2.heap.size]? = some (.stringIter s (pos + wd)) := by
        have hl := (Array.getElem?_eq_some_iff.1 hIt.out).1
        rw [hgrow4.block w2.heap.size (by simp [World.iterAt]; omega) (by intro e; injection e with e; omega)]
        rw [Below.heap_alloc _ _ _ (by simpa [World.iterAt] using hl)]
        exact Lib.iterAt_heap wr _ s pos (pos + wd) hIt.out
      have hb4 : Below w.heap.size w w4 := by
        have h1 := Lib.below_iterAt hB.out (show w.heap.size ≤ w2.heap.size from B2.out.size) s (pos + wd)
        exact (h1.alloc h1.size _).grown hgrow4 (by have := h1.size; simp; omega) (by intro k hk; injection hk with hk; omega)
      go_roundw
      case rel => exact ⟨pos + wd, g, P ++ [r], hg, by rw [List.length_append]; rfl, Lib.hid (by rw [hP.out, HST.out]; simp), Lib.hid (by rw [List.length_append, runesV_snoc]; exact hown4), Lib.hid hIt4, Lib.hid hb4⟩
      case measure =>
        have h1 : w4.iterPos w2.heap.size = pos + wd := by simp [World.iterPos, hIt4]
        have h2 : wr.iterPos w2.heap.size = pos := by simp [World.iterPos, hIt.out]
        rw [h1, h2]; omega
    · have hnx := fun ty => Lib.run_next_end_at (P := Try.prog) wr w2.heap.size s pos ty hIt.out hlt
      have he : runesS s = P := by rw [hP.out, runesN_end s f pos hlt, List.append_nil]
      have hpl : P.length = n := by rw [← he]; exact HN.out
      have HE := Lib.hid he; have HPL := Lib.hid hpl
      clear he hpl
      go_wp2
      go_ret2
      have hl2 : (intsN (runesS s)).length = P.length := by rw [HE.out]; simp [intsN]
      refine ⟨some ⟨w1.heap.size, 0, none⟩, n, by rw [HPL.out]; rfl, ?_, hB.out, fun h => by cases h⟩
      rw [hl2, HE.out]; exact hO.out
theorem runes_bad (s : ByteArray) (w : World) (hs : s.size ≤ 1048576) (hg : lenS s < 0) :
    Calls Try.prog 36 #[.string s] w fun e w' => e = .returned (.tuple #[.slice none 0 0, .bool false]) ∧ Below w.heap.size w w' := by
  go_enter Try.func36, Try.ntmps36
  go_wp2_with fail
  refine (len_any s _ (by omega)).mono ?_
  rintro e w1 ⟨rfl, hb1⟩
  go_wp2_with fail
  go_ret2
  exact ⟨rfl, hb1⟩
end Go.Proofs.Ytmpkmgkafhlpjaa
