/- contract of the document's Runes of a text -/
import Derived.Test.YthboiklcjpnhbaaRg3
namespace Go.Proofs.Ythboiklcjpnhbaa
open Go.RowKit
set_option linter.unusedVariables false
set_option maxRecDepth 20000
def RunesP (s : ByteArray) (w : World) (e : Ending) (w' : World) : Prop :=
  (0 ≤ lenS s ∧ ∃ a c, e = .returned (.tuple #[.slice a (runesS s).length c, .bool true]) ∧ HoldsI .i32 w' a (runesS s).length (intsN (runesS s)) ∧ (a = none → (runesS s).length = 0 ∧ c = 0) ∧ Below w.heap.size w w') ∨
  (lenS s < 0 ∧ e = .returned (.tuple #[.slice none 0 0, .bool false]) ∧ Below w.heap.size w w')
/-- the same, told by its memory -/
def RunesQ (s : ByteArray) (w : World) (e : Ending) (w' : World) : Prop :=
  (0 ≤ lenS s ∧ ∃ a c, e = .returned (.tuple #[.slice a (runesS s).length c, .bool true]) ∧ w'.ownsRow w.heap.size 21 1 (.slice a (runesS s).length c) (runesS s).length (runesV (intsN (runesS s))) ∧ Below w.heap.size w w') ∨
  (lenS s < 0 ∧ e = .returned (.tuple #[.slice none 0 0, .bool false]) ∧ Below w.heap.size w w')
theorem intsN_len (P : List Nat) : (intsN P).length = P.length := by simp [intsN]
theorem one_size (s : ByteArray) (i : Nat) : 0 ≤ (oneV s i).2 ∧ (oneV s i).2 ≤ 4 := by unfold oneV; split <;> (try split) <;> (try split) <;> (try split) <;> simp
theorem runesS_bad {s : ByteArray} {P : List Nat} {pos f : Nat} (hP : runesS s = P ++ runesN s f pos) (hlt : pos < s.size) (hf : s.size ≤ pos + f) (h : (Utf8.decode s pos).1 = 65533) : lenS s < 0 := by
  obtain ⟨g, rfl, hst, _⟩ := runesN_step s f pos hlt hf
  rw [hst, h] at hP
  rw [lenS_bad hP]; omega
set_option maxRecDepth 100000 in
set_option maxHeartbeats 6400000 in
theorem r1runesq_any (s : ByteArray) (w : World) (hs : s.size ≤ 1048576) :
    Calls Try.prog 102 #[.string s] w (RunesQ s w) := by
  obtain ⟨i0, hi, hz0, hz1, hz2⟩ := info_parts i32_info
  go_enter Try.func102, Try.ntmps102
  go_wp2_with fail
  go_loopw [4, 5] (fun lv iv wr => ∃ (pos f : Nat) (P : List Nat), s.size ≤ pos + f ∧ iv = .int .i64 pos ∧ pos ≤ s.size + 4 ∧ Hid (runesS s = P ++ runesN s f pos) ∧ Hid (∀ r ∈ P, r ≠ 65533) ∧ Hid (wr.ownsRow w.heap.size 21 1 lv P.length (runesV (intsN P))) ∧ Hid (Below w.heap.size w wr)) (fun _ iv _ => s.size - (intOf iv).toNat)
  case atStart => exact ⟨0, s.size, [], by omega, rfl, by omega, Lib.hid rfl, Lib.hid (by simp), Lib.hid (World.ownsRow_nil _ _ _ _), Lib.hid (Below.refl _ _)⟩
  case round =>
    obtain ⟨pos, f, P, hf, rfl, hpos, hP, hG, hO, hB⟩ := hrel
    by_cases hlt : pos < s.size
    · obtain ⟨d1, d2⟩ := one_decode s pos hlt
      have hbn := one_size s pos
      have hone := Lib.hid (one_any s pos wr hs hlt)
      obtain ⟨R, hR⟩ : ∃ R, (oneV s pos).1 = R := ⟨_, rfl⟩
      obtain ⟨N, hN⟩ : ∃ R, (oneV s pos).2 = R := ⟨_, rfl⟩
      rw [hR, hN] at d1 d2 hone
      rw [hN] at hbn
      clear hR hN
      have BAD := Lib.hid (fun h => runesS_bad hP.out hlt hf (d1 h))
      have GOOD := Lib.hid d2
      clear d1 d2
      have hgd := Lib.hid (good_any R wr)
      by_cases n0 : N = 0
      · have hneg := Lib.hid (BAD.out (Or.inl n0))
        have y1 : (N == 0) = true := by simp [n0]
        clear n0 hgd GOOD BAD
        go_wp2_with fail
        refine hone.out.mono ?_
        rintro e w' ⟨rfl, rfl⟩
        go_wp2_with fail
        go_ret2
        exact Or.inr ⟨hneg.out, rfl, hB.out⟩
      have y1 : (N == 0) = false := by simpa using n0
      by_cases gd : goodP R
      case neg =>
        have hneg := Lib.hid (BAD.out (Or.inr (Or.inl gd)))
        rw [decide_eq_false gd] at hgd
        clear gd GOOD BAD
        go_wp2_with fail
        refine hone.out.mono ?_
        rintro e w' ⟨rfl, rfl⟩
        go_wp2_with fail
        refine hgd.out.mono ?_
        rintro e w' ⟨rfl, rfl⟩
        go_wp2_with fail
        go_ret2
        exact Or.inr ⟨hneg.out, rfl, hB.out⟩
      rw [decide_eq_true gd] at hgd
      by_cases c3 : N = 3 ∧ R < 2048
      · have hneg := Lib.hid (BAD.out (Or.inr (Or.inr (Or.inl c3))))
        obtain ⟨c3, c4⟩ := c3
        subst c3
        clear gd GOOD BAD
        go_wp2_with fail
        refine hone.out.mono ?_
        rintro e w' ⟨rfl, rfl⟩
        go_wp2_with fail
        refine hgd.out.mono ?_
        rintro e w' ⟨rfl, rfl⟩
        go_wp2_with fail
        go_ret2
        exact Or.inr ⟨hneg.out, rfl, hB.out⟩
      by_cases c5 : N = 4 ∧ R < 65536
      · have hneg := Lib.hid (BAD.out (Or.inr (Or.inr (Or.inr c5))))
        obtain ⟨c5, c6⟩ := c5
        subst c5
        clear gd GOOD BAD
        go_wp2_with fail
        refine hone.out.mono ?_
        rintro e w' ⟨rfl, rfl⟩
        go_wp2_with fail
        refine hgd.out.mono ?_
        rintro e w' ⟨rfl, rfl⟩
        go_wp2_with fail
        go_ret2
        exact Or.inr ⟨hneg.out, rfl, hB.out⟩
      have hok := GOOD.out (fun h => by rcases h with h | h | h | h; exact n0 h; exact h gd; exact c3 h; exact c5 h)
      obtain ⟨g, rfl, hst, hg⟩ := runesN_step s f pos hlt hf
      have hwd := decode_width s pos hlt
      obtain ⟨r, hr⟩ : ∃ r, (Utf8.decode s pos).1 = r := ⟨_, rfl⟩
      obtain ⟨wd, hwd2⟩ : ∃ wd, (Utf8.decode s pos).2 = wd := ⟨_, rfl⟩
      rw [hr, hwd2] at hok hst; rw [hwd2] at hg hwd
      obtain ⟨hRr, rfl, hne⟩ := hok
      have HRr := Lib.hid hRr
      have hlen : P.length < s.size := by
        have h1 := congrArg List.length hP.out
        rw [hst, List.length_append, List.length_cons] at h1
        have := runesS_le s
        omega
      have HST := Lib.hid hst; have NE := Lib.hid hne
      have hN : wd = 1 ∨ wd = 2 ∨ wd = 3 ∨ wd = 4 := by omega
      have c3' : wd = 3 → (2048 : Int) ≤ R := by omega
      have c5' : wd = 4 → (65536 : Int) ≤ R := by omega
      clear hst hr hwd2 hne hRr GOOD BAD gd n0 c3 c5 y1
      rcases hN with hN | hN | hN | hN
      · clear c3' c5'
        subst hN
        go_wp2_with fail
        refine hone.out.mono ?_
        rintro e w' ⟨rfl, rfl⟩
        go_wp2_with fail
        refine hgd.out.mono ?_
        rintro e w' ⟨rfl, rfl⟩
        go_wp2_with (at_builtin; refine wpList_append_any rfl (.tmp 41) (.tmp 43) 128 rfl w.heap.size 21 i0 (.int .i32 0) 1 4 Try.underlying128 hi hz0 hz1 hz2 rfl (by decide) _ P.length _ rfl (hO.out.alloc _) _ 1 1 _ rfl (some_none _) rfl (one_new _ _ _ _) (one_int _ _) (by unfold maxLen; omega) (by omega) (by have := hB.out.size; simp; omega) ?_; intro a3 c3 w3 hown3 hb3 hnil3)
        rw [HRr.out, ← runesV_snoc] at hown3
        have O3 := Lib.hid hown3
        have B3 := Lib.hid ((hB.out.alloc hB.out.size _).trans hb3)
        clear hown3 hb3 hnil3 hO hB
        go_roundw
        case rel => exact ⟨pos + _, g, P ++ [r], hg, by go_num, by omega, Lib.hid (by rw [hP.out, HST.out]; simp), Lib.hid (by intro x hx; rcases List.mem_append.1 hx with hx | hx; exact hG.out x hx; simp at hx; rw [hx]; exact NE.out), by rw [List.length_append]; exact O3, B3⟩
        case measure => simp [intOf]; omega
      · clear c3' c5'
        subst hN
        go_wp2_with fail
        refine hone.out.mono ?_
        rintro e w' ⟨rfl, rfl⟩
        go_wp2_with fail
        refine hgd.out.mono ?_
        rintro e w' ⟨rfl, rfl⟩
        go_wp2_with (at_builtin; refine wpList_append_any rfl (.tmp 41) (.tmp 43) 128 rfl w.heap.size 21 i0 (.int .i32 0) 1 4 Try.underlying128 hi hz0 hz1 hz2 rfl (by decide) _ P.length _ rfl (hO.out.alloc _) _ 1 1 _ rfl (some_none _) rfl (one_new _ _ _ _) (one_int _ _) (by unfold maxLen; omega) (by omega) (by have := hB.out.size; simp; omega) ?_; intro a3 c3 w3 hown3 hb3 hnil3)
        rw [HRr.out, ← runesV_snoc] at hown3
        have O3 := Lib.hid hown3
        have B3 := Lib.hid ((hB.out.alloc hB.out.size _).trans hb3)
        clear hown3 hb3 hnil3 hO hB
        go_roundw
        case rel => exact ⟨pos + _, g, P ++ [r], hg, by go_num, by omega, Lib.hid (by rw [hP.out, HST.out]; simp), Lib.hid (by intro x hx; rcases List.mem_append.1 hx with hx | hx; exact hG.out x hx; simp at hx; rw [hx]; exact NE.out), by rw [List.length_append]; exact O3, B3⟩
        case measure => simp [intOf]; omega
      · have c6 := c3' hN
        clear c3' c5'
        subst hN
        go_wp2_with fail
        refine hone.out.mono ?_
        rintro e w' ⟨rfl, rfl⟩
        go_wp2_with fail
        refine hgd.out.mono ?_
        rintro e w' ⟨rfl, rfl⟩
        go_wp2_with (at_builtin; refine wpList_append_any rfl (.tmp 41) (.tmp 43) 128 rfl w.heap.size 21 i0 (.int .i32 0) 1 4 Try.underlying128 hi hz0 hz1 hz2 rfl (by decide) _ P.length _ rfl (hO.out.alloc _) _ 1 1 _ rfl (some_none _) rfl (one_new _ _ _ _) (one_int _ _) (by unfold maxLen; omega) (by omega) (by have := hB.out.size; simp; omega) ?_; intro a3 c3 w3 hown3 hb3 hnil3)
        rw [HRr.out, ← runesV_snoc] at hown3
        have O3 := Lib.hid hown3
        have B3 := Lib.hid ((hB.out.alloc hB.out.size _).trans hb3)
        clear hown3 hb3 hnil3 hO hB
        go_roundw
        case rel => exact ⟨pos + _, g, P ++ [r], hg, by go_num, by omega, Lib.hid (by rw [hP.out, HST.out]; simp), Lib.hid (by intro x hx; rcases List.mem_append.1 hx with hx | hx; exact hG.out x hx; simp at hx; rw [hx]; exact NE.out), by rw [List.length_append]; exact O3, B3⟩
        case measure => simp [intOf]; omega
      · have c6 := c5' hN
        clear c3' c5'
        subst hN
        go_wp2_with fail
        refine hone.out.mono ?_
        rintro e w' ⟨rfl, rfl⟩
        go_wp2_with fail
        refine hgd.out.mono ?_
        rintro e w' ⟨rfl, rfl⟩
        go_wp2_with (at_builtin; refine wpList_append_any rfl (.tmp 41) (.tmp 43) 128 rfl w.heap.size 21 i0 (.int .i32 0) 1 4 Try.underlying128 hi hz0 hz1 hz2 rfl (by decide) _ P.length _ rfl (hO.out.alloc _) _ 1 1 _ rfl (some_none _) rfl (one_new _ _ _ _) (one_int _ _) (by unfold maxLen; omega) (by omega) (by have := hB.out.size; simp; omega) ?_; intro a3 c3 w3 hown3 hb3 hnil3)
        rw [HRr.out, ← runesV_snoc] at hown3
        have O3 := Lib.hid hown3
        have B3 := Lib.hid ((hB.out.alloc hB.out.size _).trans hb3)
        clear hown3 hb3 hnil3 hO hB
        go_roundw
        case rel => exact ⟨pos + _, g, P ++ [r], hg, by go_num, by omega, Lib.hid (by rw [hP.out, HST.out]; simp), Lib.hid (by intro x hx; rcases List.mem_append.1 hx with hx | hx; exact hG.out x hx; simp at hx; rw [hx]; exact NE.out), by rw [List.length_append]; exact O3, B3⟩
        case measure => simp [intOf]; omega
    · have he : runesS s = P := by rw [hP.out, runesN_end s f pos hlt, List.append_nil]
      have HE := Lib.hid he
      clear he
      obtain ⟨a4, c4, rfl⟩ : ∃ a4 c4, u4 = .slice a4 P.length c4 := by
        rcases hO.out.2 with ⟨h, h0⟩ | ⟨g', c', cur, h, _⟩
        · exact ⟨none, 0, by rw [h, h0]⟩
        · exact ⟨_, c', h⟩
      have hgood := lenS_good (s := s) (by rw [HE.out]; exact hG.out)
      have HG2 := Lib.hid hgood
      clear hgood
      go_wp2_with fail
      go_ret2
      exact Or.inl ⟨by rw [HG2.out]; omega, a4, c4, by rw [HE.out]; rfl, by rw [HE.out]; exact hO.out, hB.out⟩
theorem holdsI_own {w : World} {B : Nat} {a : Option Addr} {c : Nat} {P : List Nat} (h : w.ownsRow B 21 1 (.slice a P.length c) P.length (runesV (intsN P))) : HoldsI .i32 w a P.length (intsN P) := by
  have hv := owns_holds h
  refine ⟨intsN_len P, fun h0 => ?_⟩
  obtain ⟨b, o, ha, hc⟩ := hv.2 h0
  exact ⟨b, o, ha, fun i hi => by rw [hc i hi, runesV, getD_map_int .i32 _ i (by rw [intsN_len]; exact hi)]⟩
theorem r1runes_any (s : ByteArray) (w : World) (hs : s.size ≤ 1048576) :
    Calls Try.prog 102 #[.string s] w (RunesP s w) := by
  refine (r1runesq_any s w hs).mono ?_
  rintro e w' (⟨h1, a, c, rfl, h2, h3⟩ | h)
  · exact Or.inl ⟨h1, a, c, rfl, holdsI_own h2, (owns_none h2).1, h3⟩
  · exact Or.inr h
end Go.Proofs.Ythboiklcjpnhbaa
