/- contracts of the document's Len, Word, Asked, Prefix -/
import Derived.Test.YtlkckdhenodhgaaTm3
namespace Go.Proofs.Ytlkckdhenodhgaa
open Go.RowKit
set_option linter.unusedVariables false
set_option maxHeartbeats 800000 in
theorem rlen_any (s : ByteArray) (w : World) (hs : s.size ≤ 1048576) :
    Calls Try.prog 15 #[.string s] w fun e w' => e = .returned (.int .i64 (lenS s)) ∧ Below w.heap.size w w' := by
  have hr := Lib.hid (r1runes_any s w hs)
  by_cases hg : 0 ≤ lenS s
  · have hL := (lenS_pos hg).2
    have HL := Lib.hid hL; have HG := Lib.hid hg
    clear hg hL
    obtain ⟨n, hn⟩ : ∃ n, (runesS s).length = n := ⟨_, rfl⟩
    have hle := runesS_le s
    unfold RunesP at hr
    rw [hn] at hr hle
    rw [hn] at HL
    clear hn
    go_enter Try.func15, Try.ntmps15
    go_wp2_with fail
    refine hr.out.mono ?_
    rintro e w1 (⟨h1, a, c, rfl, h2, h3, h4⟩ | ⟨h1, _⟩)
    rotate_left
    · exact absurd HG.out (by omega)
    have H4 := Lib.hid h4
    clear h1 h2 h3 h4
    go_wp2_with fail
    go_ret
    exact ⟨ret_int HL.out.symm, H4.out⟩
  · have hb : lenS s = -1 := by have := (lenS_bd s).1; omega
    have HB := Lib.hid hb; have HG := Lib.hid hg
    clear hg hb
    go_enter Try.func15, Try.ntmps15
    go_wp2_with fail
    refine hr.out.mono ?_
    rintro e w1 (⟨h1, _⟩ | ⟨h1, rfl, h2⟩)
    · exact absurd h1 (by have := HG.out; omega)
    clear h1
    go_wp2_with fail
    go_ret
    exact ⟨ret_int HB.out.symm, h2⟩
theorem rword_any (s : ByteArray) (w : World) (hs : s.size ≤ 1048576) :
    Calls Try.prog 17 #[.string s] w fun e w' => e = .returned (.bool (decide (1 ≤ lenS s ∧ lenS s ≤ 12))) ∧ Below w.heap.size w w' := by
  have h1 := Lib.hid (fun w => rlen_any s w hs)
  obtain ⟨n, hn⟩ : ∃ n, lenS s = n := ⟨_, rfl⟩
  rw [hn]
  simp only [hn] at h1
  clear hn
  by_cases h : 1 ≤ n
  · rw [show decide (1 ≤ n ∧ n ≤ 12) = decide (n ≤ 12) by simp [h]]
    go_enter Try.func17, Try.ntmps17
    go_wp2_with fail
    refine (h1.out _).mono ?_
    rintro e w1 ⟨rfl, hb⟩
    go_wp2_with fail
    refine (h1.out _).mono ?_
    rintro e w2 ⟨rfl, hb2⟩
    go_wp2_with fail
    go_ret
    exact ⟨rfl, hb.trans (hb2.mono hb.size)⟩
  · rw [show decide (1 ≤ n ∧ n ≤ 12) = false by simp [h]]
    go_enter Try.func17, Try.ntmps17
    go_wp2_with fail
    refine (h1.out _).mono ?_
    rintro e w1 ⟨rfl, hb⟩
    go_wp2_with fail
    go_ret
    exact ⟨rfl, hb⟩
theorem rasked_any (s : ByteArray) (w : World) (hs : s.size ≤ 1048576) :
    Calls Try.prog 19 #[.string s] w fun e w' => e = .returned (.bool (decide (0 ≤ lenS s ∧ lenS s ≤ 16))) ∧ Below w.heap.size w w' := by
  have h1 := Lib.hid (fun w => rlen_any s w hs)
  obtain ⟨n, hn⟩ : ∃ n, lenS s = n := ⟨_, rfl⟩
  rw [hn]
  simp only [hn] at h1
  clear hn
  by_cases h : 0 ≤ n
  · rw [show decide (0 ≤ n ∧ n ≤ 16) = decide (n ≤ 16) by simp [h]]
    go_enter Try.func19, Try.ntmps19
    go_wp2_with fail
    refine (h1.out _).mono ?_
    rintro e w1 ⟨rfl, hb⟩
    go_wp2_with fail
    refine (h1.out _).mono ?_
    rintro e w2 ⟨rfl, hb2⟩
    go_wp2_with fail
    go_ret
    exact ⟨rfl, hb.trans (hb2.mono hb.size)⟩
  · rw [show decide (0 ≤ n ∧ n ≤ 16) = false by simp [h]]
    go_enter Try.func19, Try.ntmps19
    go_wp2_with fail
    refine (h1.out _).mono ?_
    rintro e w1 ⟨rfl, hb⟩
    go_wp2_with fail
    go_ret
    exact ⟨rfl, hb⟩
theorem intsN_take (P : List Nat) (n : Nat) : (intsN P).take n = intsN (P.take n) := by simp [intsN, List.map_take]
theorem rtext_lit (a : Option Addr) (n cap : Nat) (zs : List Int) (t : ByteArray) (b : Bool) (w : World) (hh : HoldsI .i32 w a n zs) (hn : n ≤ 1048576) (ht : textZ zs = t) (hb : decide (allG zs) = b) :
    Calls Try.prog 25 #[.slice a n cap] w fun e w' => e = .returned (.tuple #[.string t, .bool b]) ∧ Below w.heap.size w w' := by
  subst ht hb; exact rtext_any a n cap zs w hh hn
set_option maxHeartbeats 1600000 in
theorem rprefix_any (s : ByteArray) (n : Int) (w : World) (hs : s.size ≤ 1048576) :
    Calls Try.prog 21 #[.string s, .int .i64 n] w fun e w' => e = .returned (.string (prefixS s n)) ∧ Below w.heap.size w w' := by
  have hr := Lib.hid (r1runesq_any s w hs)
  by_cases hn1 : n < 1
  · have hp : prefixS s n = ⟨#[]⟩ := by unfold prefixS; rw [if_pos (Or.inl hn1)]
    have HP := Lib.hid hp
    clear hp
    go_enter Try.func21, Try.ntmps21
    go_wp2_with fail
    refine hr.out.mono ?_
    rintro e w1 (⟨h1, a, c, rfl, h2, h3⟩ | ⟨h1, rfl, h3⟩)
    all_goals
      have H3 := Lib.hid h3
      clear h1 h3
      go_wp2_with fail
      go_ret
      exact ⟨by rw [HP.out]; rfl, H3.out⟩
  obtain ⟨m, rfl⟩ : ∃ m : Nat, n = (m : Int) := ⟨n.toNat, by omega⟩
  have hm : 1 ≤ m := by omega
  by_cases hg : 0 ≤ lenS s
  · have hp := prefix_made s hg m hm
    have hall := runesS_allG hg
    have hle := runesS_le s
    have HG := Lib.hid hg
    clear hg hn1
    obtain ⟨P, hP⟩ : ∃ P, runesS s = P := ⟨_, rfl⟩
    unfold RunesQ at hr
    rw [hP] at hp hall hle hr
    obtain ⟨k, hk⟩ : ∃ k, P.length = k := ⟨_, rfl⟩
    have HP := Lib.hid hp
    clear hp
    have hk2 : k ≤ 1048576 := by omega
    by_cases hlt : m < k
    · have hall2 : allG (intsN (P.take m)) := by
        intro z hz
        rw [← intsN_take] at hz
        exact hall z (List.mem_of_mem_take hz)
      have t1 := Lib.hid (textZ_good hall2)
      clear hall2 hall
      go_enter Try.func21, Try.ntmps21
      go_wp2_with fail
      refine hr.out.mono ?_
      rintro e w1 (⟨h1, a, c, rfl, h2, h3⟩ | ⟨h1, _⟩)
      rotate_left
      · exact absurd HG.out (by omega)
      have hh := holdsI_own h2
      have hcap := (owns_none h2).2
      rw [hk] at hh hcap
      simp only [hk]
      obtain ⟨b, o, rfl, hc⟩ := hh.at (by omega)
      have hsub := hh.part 0 m (by omega) (by omega) m (by omega)
      rw [Nat.add_zero, List.drop_zero, intsN_take] at hsub
      have H3 := Lib.hid h3; have HS := Lib.hid hsub
      clear h1 h2 h3 hh hc hsub hle hk
      go_wp2_with fail
      refine (rtext_lit _ m c _ _ _ w1 HS.out (by omega) t1.out.1 t1.out.2).mono ?_
      rintro e w2 ⟨rfl, hb2⟩
      go_wp2_with fail
      go_ret
      exact ⟨by rw [HP.out]; rfl, H3.out.trans (hb2.mono H3.out.size)⟩
    · have t1 := Lib.hid (textZ_good hall)
      have htk : P.take m = P := List.take_of_length_le (by omega)
      rw [htk] at HP
      clear hall htk
      go_enter Try.func21, Try.ntmps21
      go_wp2_with fail
      refine hr.out.mono ?_
      rintro e w1 (⟨h1, a, c, rfl, h2, h3⟩ | ⟨h1, _⟩)
      rotate_left
      · exact absurd HG.out (by omega)
      have hh := holdsI_own h2
      rw [hk] at hh
      simp only [hk]
      have H3 := Lib.hid h3; have HH := Lib.hid hh
      clear h1 h2 h3 hh
      go_wp2_with fail
      refine (rtext_lit _ k c _ _ _ w1 HH.out (by omega) t1.out.1 t1.out.2).mono ?_
      rintro e w2 ⟨rfl, hb2⟩
      go_wp2_with fail
      go_ret
      exact ⟨by rw [HP.out]; rfl, H3.out.trans (hb2.mono H3.out.size)⟩
  · have hp : prefixS s m = ⟨#[]⟩ := by unfold prefixS; rw [if_pos (Or.inr (by omega))]
    have HP := Lib.hid hp; have HG := Lib.hid hg
    clear hp hg
    have t1 := Lib.hid (textZ_good (zs := []) (by simp [allG]))
    go_enter Try.func21, Try.ntmps21
    go_wp2_with fail
    refine hr.out.mono ?_
    rintro e w1 (⟨h1, _⟩ | ⟨h1, rfl, h3⟩)
    · exact absurd h1 (by have := HG.out; omega)
    have H3 := Lib.hid h3
    clear h1 h3
    go_wp2_with fail
    refine (rtext_lit none 0 0 [] _ _ w1 (HoldsI.nil _ _ _) (by omega) t1.out.1 t1.out.2).mono ?_
    rintro e w2 ⟨rfl, hb2⟩
    go_wp2_with fail
    go_ret
    exact ⟨by rw [HP.out]; rfl, H3.out.trans (hb2.mono H3.out.size)⟩
end Go.Proofs.Ytlkckdhenodhgaa
