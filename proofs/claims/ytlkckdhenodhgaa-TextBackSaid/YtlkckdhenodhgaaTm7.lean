/- the law of texts that are made of their runes again -/
import Derived.Test.YtlkckdhenodhgaaTm6
namespace Go.Proofs.Ytlkckdhenodhgaa
open Go.RowKit
set_option linter.unusedVariables false
theorem prefix_facts (s : ByteArray) (h : 0 ≤ lenS s) (m : Nat) : lenS (prefixS s m) = min (m : Int) ((runesS s).length : Int) ∧ (prefixS s m).size ≤ s.size ∧ s.extract 0 (prefixS s m).size = prefixS s m := by
  by_cases hm : m = 0
  · subst hm
    have e : prefixS s ((0 : Nat) : Int) = ⟨#[]⟩ := by unfold prefixS; rw [if_pos (Or.inl (by omega))]
    rw [e]
    refine ⟨?_, Nat.zero_le _, ?_⟩
    · have : lenS ⟨#[]⟩ = 0 := by decide
      rw [this]; omega
    · apply ByteArray.ext
      simp [ByteArray.size]
  have hp := prefix_made s h m (by omega)
  have hall : allG (intsN ((runesS s).take m)) := by
    intro z hz
    rw [← intsN_take] at hz
    exact runesS_allG h z (List.mem_of_mem_take hz)
  have hl := made_len _ hall
  rw [← hp] at hl
  refine ⟨by rw [hl, List.length_take]; omega, ?_⟩
  by_cases hn : m ≤ (runesS s).length
  · obtain ⟨P, f, hP, hpl, hf, hps, ht⟩ := front s h m hn
    have e : prefixS s m = s.extract 0 (posN s m) := by unfold prefixS; rw [if_neg (by omega), Int.toNat_natCast]
    have hs := (extract_size s (posN s m) hps).1
    rw [e, hs]
    exact ⟨hps, rfl⟩
  · have hL := (lenS_pos h).2
    rw [prefix_past s h m (by omega) (by omega)]
    exact ⟨Nat.le_refl _, extract_all s _ (Nat.le_refl _)⟩
theorem str_beq_self (t : ByteArray) : (t.toList == t.toList) = true := by simp
set_option maxHeartbeats 1600000 in
theorem textBack_any (s : ByteArray) (n : Int) (w : World) (h1 : s.size ≤ 9223372036854775807) :
    Calls Try.prog 6 #[.string s, .int .i64 n] w fun e w' => e = .returned (.bool true) ∧ Below w.heap.size w w' := by
  by_cases hlong : 300 < s.size
  · go_enter Try.func6, Try.ntmps6
    go_wp2_with fail
    refine (awake_any _).mono ?_
    rintro e w' ⟨rfl, hb⟩
    go_wp2_with fail
    go_ret
    exact ⟨rfl, hb⟩
  have hls : s.size ≤ 300 := by omega
  have L1 := Lib.hid (fun w => len_any s w (by omega))
  clear hlong h1
  by_cases hg : 0 ≤ lenS s
  · have hT := textZ_runes s hg
    have hG := runesS_allG hg
    have hL := (lenS_pos hg).2
    have hlow := low_bd n 20 (by omega)
    have hlowc := Lib.hid (fun w => low_any n 20 (by omega) (by omega) w)
    obtain ⟨m, hm⟩ : ∃ m : Nat, lowV n 20 = (m : Int) := ⟨(lowV n 20).toNat, by omega⟩
    rw [hm] at hlow hlowc
    have hpf := prefix_facts s hg m
    have P1 := Lib.hid (fun w => prefix_any s m w (by omega))
    obtain ⟨p, hp⟩ : ∃ p, prefixS s m = p := ⟨_, rfl⟩
    rw [hp] at hpf
    simp only [hp] at P1
    obtain ⟨zs, hzs⟩ : ∃ zs, intsN (runesS s) = zs := ⟨_, rfl⟩
    obtain ⟨k, hk⟩ : ∃ k, (runesS s).length = k := ⟨_, rfl⟩
    have hk3 : k ≤ 300 := by have := runesS_le s; omega
    have R1 := Lib.hid (fun w => runes_lit s zs k w (by omega) hg hzs hk)
    rw [hk] at hL hpf
    rw [hzs] at hT hG
    simp only [hL] at L1
    obtain ⟨q1, q2, q3⟩ := hpf
    have L2 := Lib.hid (fun w => len_any p w (by omega))
    simp only [q1] at L2
    have HT := Lib.hid hT; have HG := Lib.hid (decide_eq_true hG)
    have HR := Lib.hid (show ∀ z ∈ zs, -2147483648 ≤ z ∧ z ≤ 2147483647 from fun z hz => by have := hG z hz; unfold goodP at this; omega)
    have x1 := str_beq_self s
    have x2 := str_beq_self p
    have x3 : ((k : Int) == (k : Int)) = true := by simp
    have x4 : (min (m : Int) (k : Int) == min (m : Int) (k : Int)) = true := by simp
    have x5 : (p.size : Int) ≤ (s.size : Int) := by omega
    clear hT hG hL hm hp hzs hk q1 hg
    go_enter Try.func6, Try.ntmps6
    go_wp2_with fail
    refine (R1.out _).mono ?_
    rintro e w1 ⟨a, c, rfl, ho1, hb1⟩
    have B1 := Lib.hid hb1; have H1 := Lib.hid (holdsI_ownV ho1)
    clear hb1 ho1
    go_wp2_with fail
    refine (text_lit a k c zs s true w1 H1.out (by omega) HR.out HT.out HG.out).mono ?_
    rintro e w2 ⟨rfl, hb2⟩
    have B2 := Lib.hid (B1.out.trans (hb2.mono B1.out.size))
    clear hb2
    go_wp2_with fail
    refine (hlowc.out _).mono ?_
    rintro e w' ⟨rfl, rfl⟩
    go_wp2_with fail
    refine (P1.out _).mono ?_
    rintro e w3 ⟨rfl, hb3⟩
    have B3 := Lib.hid (B2.out.trans (hb3.mono B2.out.size))
    clear hb3
    go_wp2_with fail
    refine (L1.out _).mono ?_
    rintro e w4 ⟨rfl, hb4⟩
    have B4 := Lib.hid (B3.out.trans (hb4.mono B3.out.size))
    clear hb4
    go_wp2_with fail
    refine (L2.out _).mono ?_
    rintro e w5 ⟨rfl, hb5⟩
    have B5 := Lib.hid (B4.out.trans (hb5.mono B4.out.size))
    clear hb5
    go_wp2_with fail
    refine (awake_any _).mono ?_
    rintro e wf ⟨rfl, hbf⟩
    go_wp2_with fail
    go_ret
    exact ⟨rfl, B5.out.trans (hbf.mono B5.out.size)⟩
  · have hneg : lenS s < 0 := by omega
    have hl : lenS s = -1 := by have := (lenS_bd s).1; omega
    have R1 := Lib.hid (fun w => runes_bad s w (by omega) hneg)
    have W1 := Lib.hid (fun w => word_any s w (by omega))
    have P1 := Lib.hid (fun w => prefix_any s n w (by omega))
    have hp : prefixS s n = ⟨#[]⟩ := by unfold prefixS; rw [if_pos (Or.inr hneg)]
    simp only [hp] at P1
    simp only [hl] at L1 W1
    rw [show decide ((1 : Int) ≤ -1 ∧ (-1 : Int) ≤ 12) = false by decide] at W1
    have x2 := str_beq_self ⟨#[]⟩
    clear hl hg hneg hp
    go_enter Try.func6, Try.ntmps6
    go_wp2_with fail
    refine (R1.out _).mono ?_
    rintro e w1 ⟨rfl, hb1⟩
    have B1 := Lib.hid hb1
    clear hb1
    go_wp2_with fail
    refine (L1.out _).mono ?_
    rintro e w2 ⟨rfl, hb2⟩
    have B2 := Lib.hid (B1.out.trans (hb2.mono B1.out.size))
    clear hb2
    go_wp2_with fail
    refine (W1.out _).mono ?_
    rintro e w3 ⟨rfl, hb3⟩
    have B3 := Lib.hid (B2.out.trans (hb3.mono B2.out.size))
    clear hb3
    go_wp2_with fail
    refine (P1.out _).mono ?_
    rintro e w4 ⟨rfl, hb4⟩
    have B4 := Lib.hid (B3.out.trans (hb4.mono B3.out.size))
    clear hb4
    go_wp2_with fail
    refine (awake_any _).mono ?_
    rintro e wf ⟨rfl, hbf⟩
    go_wp2_with fail
    go_ret
    exact ⟨rfl, B4.out.trans (hbf.mono B4.out.size)⟩
open Go.ChangeShapes Go.WideShapes Go.ChangeAt in
open Go.ChangeMaps (open_string) in
theorem textBack_walk {H : Type} {enc : TypeId × Value → H} (W : World) (base : Nat) (v0 v1 : Value) (d0 d1 : DataW H) (p0 p1 : List MemPlace)
    (h0 : DataW.Trod enc Try.prog W 0 (fun _ => true) true 9 v0 d0 p0) (h1 : DataW.Trod enc Try.prog W 0 (fun _ => true) true 3 v1 d1 p1)
    (o0 : Value.okWide Try.prog W .any base 9 v0) (o1 : Value.okWide Try.prog W .any base 3 v1) :
    Calls Try.prog 6 #[v0, v1] W fun e w' => e = .returned (.bool true) ∧ RowKit.Below W.heap.size W w' := by
  obtain ⟨s, rfl, rfl, rfl, ws⟩ := open_string Try.underlying9 o0 h0
  obtain ⟨t, rfl, rfl, rfl, _⟩ := open_int Try.underlying3 o1 h1
  exact textBack_any s t W (by unfold maxLen at ws; omega)
end Go.Proofs.Ytlkckdhenodhgaa
