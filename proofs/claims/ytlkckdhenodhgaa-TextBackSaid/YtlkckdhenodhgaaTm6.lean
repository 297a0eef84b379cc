/- the law of what texts tell -/
import Derived.Test.YtlkckdhenodhgaaTm5
import Derived.Test.YtlkckdhenodhgaaOvgRunes
namespace Go.Proofs.Ytlkckdhenodhgaa
open Go.RowKit
set_option linter.unusedVariables false
theorem HoldsI.spared {k : IntKind} {w w' : World} {a : Option Addr} {n : Nat} {zs : List Int} {row : Option Nat} (h : HoldsI k w a n zs) (hg : w.grownBy w' row) (hne : ∀ ad, a = some ad → some ad.block ≠ row) : HoldsI k w' a n zs := by
  refine ⟨h.1, fun h0 => ?_⟩
  obtain ⟨b, o, ha, hc⟩ := h.2 h0
  refine ⟨b, o, ha, fun i hi => ?_⟩
  have h1 := hc i hi
  have hlt := lt_of_cell h1
  rw [← h1]
  exact World.cell?_of_block (w := w) (a := ⟨b, o + i, none⟩) (hg.block b hlt (hne _ ha))
theorem runes_lit (s : ByteArray) (zs : List Int) (n : Nat) (w : World) (hs : s.size ≤ 1048576) (hg : 0 ≤ lenS s) (hz : intsN (runesS s) = zs) (hn : (runesS s).length = n) :
    Calls Try.prog 11 #[.string s] w fun e w' => ∃ a c, e = .returned (.tuple #[.slice a n c, .bool true]) ∧ w'.ownsRow w.heap.size 21 1 (.slice a n c) n (runesV zs) ∧ Below w.heap.size w w' := by
  subst hz hn
  refine (runes_good s w hs hg).mono ?_
  rintro e w' ⟨a, c, rfl, h1, h2, _⟩
  rw [intsN_len] at h1
  exact ⟨a, c, rfl, h1, h2⟩
theorem r1runes_lit (s : ByteArray) (zs : List Int) (n : Nat) (w : World) (hs : s.size ≤ 1048576) (hg : 0 ≤ lenS s) (hz : intsN (runesS s) = zs) (hn : (runesS s).length = n) :
    Calls Try.prog 12 #[.string s] w fun e w' => ∃ a c, e = .returned (.tuple #[.slice a n c, .bool true]) ∧ w'.ownsRow w.heap.size 21 1 (.slice a n c) n (runesV zs) ∧ Below w.heap.size w w' := by
  subst hz hn
  refine (r1runesq_any s w hs).mono ?_
  rintro e w' (⟨_, a, c, rfl, h1, h2⟩ | ⟨h1, _⟩)
  · exact ⟨a, c, rfl, h1, h2⟩
  · omega
theorem r1runes_bad (s : ByteArray) (w : World) (hs : s.size ≤ 1048576) (hg : lenS s < 0) :
    Calls Try.prog 12 #[.string s] w fun e w' => e = .returned (.tuple #[.slice none 0 0, .bool false]) ∧ Below w.heap.size w w' := by
  refine (r1runesq_any s w hs).mono ?_
  rintro e w' (⟨h1, _⟩ | ⟨_, h1, h2⟩)
  · omega
  · exact ⟨h1, h2⟩
theorem holdsI_ownV {w : World} {B : Nat} {a : Option Addr} {n c : Nat} {zs : List Int} (h : w.ownsRow B 21 1 (.slice a n c) n (runesV zs)) : HoldsI .i32 w a n zs := holdsI_of_values (owns_holds h)
theorem own_lt {w : World} {B n c m s : Nat} {e : TypeId} {a : Option Addr} {xs : List Value} (h : w.ownsRow B e s (.slice a n c) m xs) : ∀ ad, a = some ad → B ≤ ad.block ∧ ad.block < w.heap.size := by
  rintro ad rfl
  exact h.lt ad.block rfl
set_option maxHeartbeats 1600000 in
theorem textTells_any (s : ByteArray) (n : Int) (w : World) (h1 : s.size ≤ 9223372036854775807) :
    Calls Try.prog 3 #[.string s, .int .i64 n] w fun e w' => e = .returned (.bool true) ∧ Below w.heap.size w w' := by
  by_cases hlong : 300 < s.size
  · go_enter Try.func3, Try.ntmps3
    go_wp2_with fail
    refine (awake_any _).mono ?_
    rintro e w' ⟨rfl, hb⟩
    go_wp2_with fail
    go_ret
    exact ⟨rfl, hb⟩
  have hls : s.size ≤ 300 := by omega
  have L1 := Lib.hid (fun w => len_any s w (by omega))
  have L2 := Lib.hid (fun w => rlen_any s w (by omega))
  have W1 := Lib.hid (fun w => word_any s w (by omega))
  have W2 := Lib.hid (fun w => rword_any s w (by omega))
  have A1 := Lib.hid (fun w => asked_any s w (by omega))
  have A2 := Lib.hid (fun w => rasked_any s w (by omega))
  have P1 := Lib.hid (fun w => prefix_any s n w (by omega))
  have P2 := Lib.hid (fun w => rprefix_any s n w (by omega))
  obtain ⟨p, hp⟩ : ∃ p, prefixS s n = p := ⟨_, rfl⟩
  obtain ⟨bw, hbw⟩ : ∃ b, decide (1 ≤ lenS s ∧ lenS s ≤ 12) = b := ⟨_, rfl⟩
  obtain ⟨ba, hba⟩ : ∃ b, decide (0 ≤ lenS s ∧ lenS s ≤ 16) = b := ⟨_, rfl⟩
  simp only [hp] at P1 P2
  simp only [hbw] at W1 W2
  simp only [hba] at A1 A2
  have x1 : (p.toList == p.toList) = true := by simp
  have x2 := bool_beq_self bw
  have x3 := bool_beq_self ba
  clear hlong hp hbw hba h1
  by_cases hg : 0 ≤ lenS s
  · obtain ⟨zs, hzs⟩ : ∃ zs, intsN (runesS s) = zs := ⟨_, rfl⟩
    obtain ⟨k, hk⟩ : ∃ k, (runesS s).length = k := ⟨_, rfl⟩
    have hk3 : k ≤ 300 := by have := runesS_le s; omega
    have R1 := Lib.hid (fun w => runes_lit s zs k w (by omega) hg hzs hk)
    have R2 := Lib.hid (fun w => r1runes_lit s zs k w (by omega) hg hzs hk)
    obtain ⟨l, hl⟩ : ∃ l, lenS s = l := ⟨_, rfl⟩
    simp only [hl] at L1 L2
    have x4 : (l == l) = true := by simp
    clear hzs hk hl hg
    go_enter Try.func3, Try.ntmps3
    go_wp2_with fail
    refine (R1.out _).mono ?_
    rintro e w1 ⟨a, c, rfl, ho1, hb1⟩
    have B1 := Lib.hid hb1; have O1 := Lib.hid ho1; have S1 := Lib.hid (own_lt ho1)
    clear hb1 ho1
    go_wp2_with fail
    refine (R2.out _).mono ?_
    rintro e w2 ⟨a2, c2, rfl, ho2, hb2⟩
    have F2 := Lib.hid (Below.refl w2.heap.size w2)
    have O2 := Lib.hid (owns_below O1.out hb2)
    have H2 := Lib.hid (holdsI_ownV ho2)
    have S2 := Lib.hid (own_lt ho2)
    have B2 := Lib.hid (B1.out.trans (hb2.mono B1.out.size))
    clear hb2 ho2
    go_wp2_with fail
    refine (sameRunes_yes a a2 k c c2 zs w2 (holdsI_ownV O2.out) H2.out (by omega)).mono ?_
    rintro e w3 ⟨rfl, hb3⟩
    have F3 := Lib.hid hb3
    clear hb3
    go_wp2_with fail
    refine (L1.out _).mono ?_
    rintro e w4 ⟨rfl, hb4⟩
    have F4 := Lib.hid (F3.out.trans (hb4.mono F3.out.size))
    clear hb4 F3
    go_wp2_with fail
    refine (L2.out _).mono ?_
    rintro e w5 ⟨rfl, hb5⟩
    have F5 := Lib.hid (F4.out.trans (hb5.mono F4.out.size))
    clear hb5 F4
    go_wp2_with fail
    refine (W1.out _).mono ?_
    rintro e w6 ⟨rfl, hb6⟩
    have F6 := Lib.hid (F5.out.trans (hb6.mono F5.out.size))
    clear hb6 F5
    go_wp2_with fail
    refine (W2.out _).mono ?_
    rintro e w7 ⟨rfl, hb7⟩
    have F7 := Lib.hid (F6.out.trans (hb7.mono F6.out.size))
    clear hb7 F6
    go_wp2_with fail
    refine (A1.out _).mono ?_
    rintro e w8 ⟨rfl, hb8⟩
    have F8 := Lib.hid (F7.out.trans (hb8.mono F7.out.size))
    clear hb8 F7
    go_wp2_with fail
    refine (A2.out _).mono ?_
    rintro e w9 ⟨rfl, hb9⟩
    have F9 := Lib.hid (F8.out.trans (hb9.mono F8.out.size))
    clear hb9 F8
    go_wp2_with fail
    refine (P1.out _).mono ?_
    rintro e wa ⟨rfl, hba⟩
    have Fa := Lib.hid (F9.out.trans (hba.mono F9.out.size))
    clear hba F9
    go_wp2_with fail
    refine (P2.out _).mono ?_
    rintro e wb ⟨rfl, hbb⟩
    have Fb := Lib.hid (Fa.out.trans (hbb.mono Fa.out.size))
    clear hbb Fa
    go_wp2_with fail
    have Ob := Lib.hid (owns_below O2.out Fb.out)
    have Hb := Lib.hid (H2.out.below Fb.out)
    have Bb := Lib.hid (B2.out.trans (Fb.out.mono B2.out.size))
    clear O1 O2 H2 F2 Fb
    refine (ovgRunes_any w.heap.size a k c _ wb Ob.out Bb.out.size (by omega)).mono ?_
    rintro e wc ⟨rfl, hbc, hgc⟩
    have Bc := Lib.hid (Bb.out.trans hbc)
    have Hc := Lib.hid (Hb.out.spared hgc (by
      intro ad had
      have q2 := (S2.out ad had).1
      cases a with
      | none => intro e; cases e
      | some ag =>
        have q1 := (S1.out ag rfl).2
        intro e
        have e1 : ad.block = ag.block := Option.some.inj e
        omega))
    clear Ob Hb Bb hbc hgc S1 S2
    go_wp2_with fail
    refine (R1.out _).mono ?_
    rintro e wd ⟨a4, c4, rfl, ho4, hb4⟩
    have Bd := Lib.hid (Bc.out.trans (hb4.mono Bc.out.size))
    have Hd := Lib.hid (Hc.out.below hb4)
    have H4 := Lib.hid (holdsI_ownV ho4)
    clear ho4 hb4 Hc Bc
    go_wp2_with fail
    refine (sameRunes_yes a4 a2 k c4 c2 zs wd H4.out Hd.out (by omega)).mono ?_
    rintro e we ⟨rfl, hbe⟩
    have Be := Lib.hid (Bd.out.trans (hbe.mono Bd.out.size))
    clear hbe Bd
    go_wp2_with fail
    refine (awake_any _).mono ?_
    rintro e wf ⟨rfl, hbf⟩
    go_wp2_with fail
    go_ret
    exact ⟨rfl, Be.out.trans (hbf.mono Be.out.size)⟩
  · have hneg : lenS s < 0 := by omega
    have R1 := Lib.hid (fun w => runes_bad s w (by omega) hneg)
    have R2 := Lib.hid (fun w => r1runes_bad s w (by omega) hneg)
    obtain ⟨l, hl⟩ : ∃ l, lenS s = l := ⟨_, rfl⟩
    simp only [hl] at L1 L2
    have x4 : (l == l) = true := by simp
    clear hl hg hneg
    go_enter Try.func3, Try.ntmps3
    go_wp2_with fail
    refine (R1.out _).mono ?_
    rintro e w1 ⟨rfl, hb1⟩
    have B1 := Lib.hid hb1
    clear hb1
    go_wp2_with fail
    refine (R2.out _).mono ?_
    rintro e w2 ⟨rfl, hb2⟩
    have F2 := Lib.hid (B1.out.trans (hb2.mono B1.out.size))
    clear hb2
    go_wp2_with fail
    refine (sameRunes_yes none none 0 0 0 [] w2 (HoldsI.nil _ _ _) (HoldsI.nil _ _ _) (by omega)).mono ?_
    rintro e w3 ⟨rfl, hb3⟩
    have F3 := Lib.hid (F2.out.trans (hb3.mono F2.out.size))
    clear hb3
    go_wp2_with fail
    refine (L1.out _).mono ?_
    rintro e w4 ⟨rfl, hb4⟩
    have F4 := Lib.hid (F3.out.trans (hb4.mono F3.out.size))
    clear hb4 F3
    go_wp2_with fail
    refine (L2.out _).mono ?_
    rintro e w5 ⟨rfl, hb5⟩
    have F5 := Lib.hid (F4.out.trans (hb5.mono F4.out.size))
    clear hb5 F4
    go_wp2_with fail
    refine (W1.out _).mono ?_
    rintro e w6 ⟨rfl, hb6⟩
    have F6 := Lib.hid (F5.out.trans (hb6.mono F5.out.size))
    clear hb6 F5
    go_wp2_with fail
    refine (W2.out _).mono ?_
    rintro e w7 ⟨rfl, hb7⟩
    have F7 := Lib.hid (F6.out.trans (hb7.mono F6.out.size))
    clear hb7 F6
    go_wp2_with fail
    refine (A1.out _).mono ?_
    rintro e w8 ⟨rfl, hb8⟩
    have F8 := Lib.hid (F7.out.trans (hb8.mono F7.out.size))
    clear hb8 F7
    go_wp2_with fail
    refine (A2.out _).mono ?_
    rintro e w9 ⟨rfl, hb9⟩
    have F9 := Lib.hid (F8.out.trans (hb9.mono F8.out.size))
    clear hb9 F8
    go_wp2_with fail
    refine (P1.out _).mono ?_
    rintro e wa ⟨rfl, hba⟩
    have Fa := Lib.hid (F9.out.trans (hba.mono F9.out.size))
    clear hba F9
    go_wp2_with fail
    refine (P2.out _).mono ?_
    rintro e wb ⟨rfl, hbb⟩
    have Fb := Lib.hid (Fa.out.trans (hbb.mono Fa.out.size))
    clear hbb Fa
    go_wp2_with fail
    refine (ovgRunes_any w.heap.size none 0 0 [] wb (World.ownsRow_nil _ _ _ _) Fb.out.size (by omega)).mono ?_
    rintro e wc ⟨rfl, hbc, hgc⟩
    have Bc := Lib.hid (Fb.out.trans hbc)
    clear Fb hbc hgc
    go_wp2_with fail
    refine (R1.out _).mono ?_
    rintro e wd ⟨rfl, hb4⟩
    have Bd := Lib.hid (Bc.out.trans (hb4.mono Bc.out.size))
    clear hb4 Bc
    go_wp2_with fail
    refine (sameRunes_yes none none 0 0 0 [] wd (HoldsI.nil _ _ _) (HoldsI.nil _ _ _) (by omega)).mono ?_
    rintro e we ⟨rfl, hbe⟩
    have Be := Lib.hid (Bd.out.trans (hbe.mono Bd.out.size))
    clear hbe Bd
    go_wp2_with fail
    refine (awake_any _).mono ?_
    rintro e wf ⟨rfl, hbf⟩
    go_wp2_with fail
    go_ret
    exact ⟨rfl, Be.out.trans (hbf.mono Be.out.size)⟩
open Go.ChangeShapes Go.WideShapes Go.ChangeAt in
open Go.ChangeMaps (open_string) in
theorem textTells_walk {H : Type} {enc : TypeId × Value → H} (W : World) (base : Nat) (v0 v1 : Value) (d0 d1 : DataW H) (p0 p1 : List MemPlace)
    (h0 : DataW.Trod enc Try.prog W 0 (fun _ => true) true 9 v0 d0 p0) (h1 : DataW.Trod enc Try.prog W 0 (fun _ => true) true 3 v1 d1 p1)
    (o0 : Value.okWide Try.prog W .any base 9 v0) (o1 : Value.okWide Try.prog W .any base 3 v1) :
    Calls Try.prog 3 #[v0, v1] W fun e w' => e = .returned (.bool true) ∧ RowKit.Below W.heap.size W w' := by
  obtain ⟨s, rfl, rfl, rfl, ws⟩ := open_string Try.underlying9 o0 h0
  obtain ⟨t, rfl, rfl, rfl, _⟩ := open_int Try.underlying3 o1 h1
  exact textTells_any s t W (by unfold maxLen at ws; omega)
end Go.Proofs.Ytlkckdhenodhgaa
