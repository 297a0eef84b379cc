/- pack: an image that was turned, cut, or has a byte more is refused -/
import Derived.Test.YtlcmndbnknifhaaPkD
import Derived.Test.YtlcmndbnknifhaaPkE
namespace Go.Proofs.Ytlcmndbnknifhaa
open Go.RowKit
set_option linter.unusedVariables false
set_option maxRecDepth 20000
theorem u8_one9 (x : Int) : ∃ z : Nat, IntKind.u8.wrap x = (z : Int) ∧ z < 256 := by
  refine ⟨(IntKind.u8.wrap x).toNat, ?_, ?_⟩ <;> (rw [IntKind.wrap_u8]; omega)
theorem bytesV_more (I : List Nat) (z : Nat) : bytesV I ++ [.int .u8 (z : Int)] = bytesV (I ++ [z]) := by simp [bytesV]
theorem someA_none9 {q : Addr} {n c : Nat} : (some q : Option Addr) = none → n = 0 ∧ c = 0 := fun e => by cases e
set_option maxHeartbeats 3200000 in
theorem packTurned_any (a : Option Addr) (n cap : Nat) (ts : List Tx) (at_ x : Int) (w : World) (hh : HoldsT w a n ts) (hc : n ≤ cap) (hn : n ≤ 9223372036854775807) (hsz : ∀ t ∈ ts, t.size ≤ 9223372036854775807) :
    Calls Try.prog 6 #[.slice a n cap, .int .i64 at_, .int .i64 x] w fun e w' => e = .returned (.bool true) ∧ Below w.heap.size w w' := by
  obtain ⟨i0, hi, hz0, hz1, hz2⟩ := info_parts u8d_info
  have CG := Lib.hid (great_any a n cap ts w hh hn hsz)
  have HH := Lib.hid hh
  have HL := Lib.hid hh.len
  by_cases q0 : greatB ts = true
  · rw [q0] at CG
    go_enter Try.func6, Try.ntmps6
    go_wp2_with fail
    refine CG.out.mono ?_
    rintro e w1 ⟨rfl, hb⟩
    have B1 := Lib.hid hb
    clear hb
    go_wp2_with fail
    refine (awake9_any _).mono ?_
    rintro e w' ⟨rfl, hb⟩
    have B2 := Lib.hid (B1.out.trans (hb.mono B1.out.size))
    clear hb
    go_wp2_with fail
    go_ret
    exact ⟨rfl, B2.out⟩
  have q0' : greatB ts = false := by simpa using q0
  rw [q0'] at CG
  obtain ⟨l80, hsm⟩ := great_no_iff.1 q0'
  have hsm : ∀ t ∈ ts, t.size ≤ 100 := hsm
  by_cases q2 : goodV ts = 0
  · obtain ⟨I, hI⟩ : ∃ I, imgB (grS ts) = I := ⟨_, rfl⟩
    obtain ⟨m, hm⟩ : ∃ m, I.length = m := ⟨_, rfl⟩
    have hl := imgB_len q2
    rw [hI, hm] at hl
    obtain ⟨m10, m52⟩ := hl
    obtain ⟨k, hk⟩ : ∃ k, m - 1 = k := ⟨_, rfl⟩
    obtain ⟨z, hz, hz256⟩ := u8_one9 x
    have D1 : decS (Dm.turned I at_ x) = none ∧ (if openB (Dm.turned I at_ x) then (8 : Int) else 9) = 9 := by
      have h1 := turned_shut (grS ts) at_ x
      rw [hI] at h1
      refine ⟨?_, by rw [h1]; rfl⟩
      unfold decS; rw [h1]; rfl
    have D2 : decS (I.take k) = none := by have := cut_none q2; rw [hI, hm, hk] at this; exact this
    have D3 : decS (I ++ [z]) = none := by have := more_none q2 z; rw [hI] at this; exact this
    obtain ⟨y2, hy2, hy2n⟩ : ∃ y : Int, (if openB (I.take k) then (8 : Int) else 9) = y ∧ (y != 0) = true := ⟨_, rfl, by cases openB (I.take k) <;> rfl⟩
    obtain ⟨y3, hy3, hy3n⟩ : ∃ y : Int, (if openB (I ++ [z]) then (8 : Int) else 9) = y ∧ (y != 0) = true := ⟨_, rfl, by cases openB (I ++ [z]) <;> rfl⟩
    have IB := Lib.hid (show ∀ b ∈ I, b < 256 from by rw [← hI]; exact imgB_lt _)
    have CO := Lib.hid (fun (w1 : World) (hb : Below w.heap.size w w1) => pOf_c a n cap ts I m (w0 := w) w1 hb (HH.out.below hb) hc hn q2 hI hm)
    have CT := Lib.hid (fun (w1 : World) q c1 (h : HoldsB w1 (some q) m I) => rturned_any (some q) m c1 I at_ x w1 h someA_none9 (by omega) (by omega))
    have tl : (Dm.turned I at_ x).length = m := by rw [Dm.turned_len, hm]
    have C1 := Lib.hid (fun (w1 : World) a1 c1 (h : HoldsB w1 a1 m (Dm.turned I at_ x)) (hc : m ≤ c1) => decode_no a1 m c1 _ 9 w1 h hc (by omega) D1.1 D1.2)
    have TB := Lib.hid (show ∀ b ∈ Dm.turned I at_ x, b < 256 from fun b hb => by
      unfold Dm.turned at hb
      rcases List.mem_or_eq_of_mem_set hb with hb | rfl
      · exact IB.out b hb
      · refine Nat.xor_lt_two_pow (n := 8) ?_ (by have := Dm.m_bd x; omega)
        have hkk := Dm.k_lt I.length at_ (by omega)
        rw [List.getD_eq_getElem?_getD, List.getElem?_eq_getElem hkk]
        exact IB.out _ (List.getElem_mem _))
    have C2 := Lib.hid (fun (w1 : World) a1 c1 (h : HoldsB w1 a1 k (I.take k)) (hc : k ≤ c1) => decode_no a1 k c1 _ y2 w1 h hc (by omega) D2 hy2)
    have C3 := Lib.hid (fun (w1 : World) a1 c1 (h : HoldsB w1 a1 (m + 1) (I ++ [z])) (hc : m + 1 ≤ c1) => decode_no a1 (m + 1) c1 _ y3 w1 h hc (by omega) D3 hy3)
    unfold RetB at CT
    rw [tl] at CT
    have HM := Lib.hid hm
    have e0 : ((m : Int) == 0) = false := by rw [beq_eq_false_iff_ne]; omega
    have e1 : (m : Int) - 1 = (k : Int) := by omega
    have e2 : (0 : Int) ≤ (k : Int) := by omega
    have HZ := Lib.hid hz256
    clear hI hm q2 hsm q0 q0' hsz hh D1 D2 D3 hy2 hy3 tl hz256
    go_enter Try.func6, Try.ntmps6
    go_wp2_with fail
    with_reducible refine CG.out.mono ?_
    rintro e w1 ⟨rfl, hb⟩
    have CO1 := Lib.hid (CO.out w1 hb)
    clear hb CG CO
    go_wp2_with fail
    with_reducible refine CO1.out.mono ?_
    rintro e w2 ⟨a2, c2, rfl, o2, h2, hc2, hb, -⟩
    obtain ⟨q, cp, hv⟩ := Joins.ownsRow_form o2 (by omega)
    simp only [Value.slice.injEq] at hv
    obtain ⟨hv, -, -⟩ := hv
    subst hv
    have H2 := Lib.hid h2
    have B2 := Lib.hid hb
    have CT1 := Lib.hid (CT.out w2 _ c2 h2)
    have e3 : (k : Int) ≤ (c2 : Int) := by omega
    have e4 : k ≤ c2 := by omega
    clear h2 hb CO1 CT o2
    go_wp2_with fail
    with_reducible refine CT1.out.mono ?_
    rintro e w3 ⟨a3, c3, rfl, o3, hb, -⟩
    have B3 := Lib.hid (B2.out.trans (hb.mono B2.out.size))
    have H3 := Lib.hid (H2.out.below hb)
    have C1' := Lib.hid (C1.out w3 a3 c3 (holdsB_of_values (owns_holds o3) TB.out) (owns_none o3).2)
    clear hb o3 CT1 C1 B2 H2
    go_wp2_with fail
    with_reducible refine C1'.out.mono ?_
    rintro e w4 ⟨rfl, hb⟩
    have B4 := Lib.hid (B3.out.trans (hb.mono B3.out.size))
    have H4 := Lib.hid (H3.out.below hb)
    have C2' := Lib.hid (C2.out w4 _ c2 (H4.out.front k (by omega)) e4)
    clear hb C1' C2 B3 H3
    go_wp2_with fail
    with_reducible refine C2'.out.mono ?_
    rintro e w5 ⟨rfl, hb⟩
    have B5 := Lib.hid (B4.out.trans (hb.mono B4.out.size))
    have H5 := Lib.hid (H4.out.below hb)
    have HV5 := Lib.hid (H5.out.values.cells (World.grownBy.refl _ _))
    have hbl : (bytesV I).length = m * 1 := by rw [bytesV_length, HM.out, Nat.mul_one]
    clear hb C2' B4 H4
    go_wp2_with (first
      | (at_builtin; refine wpList_append_any rfl (.const (.slice none 0 0)) (.tmp 47) 25 rfl w.heap.size 5 i0 _ 1 1 Try.underlying25 hi hz0 hz1 hz2 rfl (by decide) _ 0 [] rfl (World.ownsRow_nil _ _ _ _) (some ⟨q, 0, none⟩) m c2 (bytesV I) rfl someA_none9 hbl HV5.out (bytesV_one _) (by unfold maxLen; omega) (by omega) B5.out.size ?_; intro a6 c6 w6 ho6 hb6 hn6; rw [Nat.zero_add, List.nil_append] at ho6)
      | (at_builtin; refine wpList_append_any rfl (.tmp 48) (.tmp 51) 25 rfl w.heap.size 5 i0 _ 1 1 Try.underlying25 hi hz0 hz1 hz2 rfl (by decide) _ m _ rfl (ho6.alloc _) _ 1 1 _ rfl someA_none9 rfl (one_new _ _ _ _) (one_int _ _) (by unfold maxLen; omega) (by omega) (by have := hb6.size; have := B5.out.size; simp; omega) ?_; intro a7 c7 w7 ho7 hb7 hn7))
    have B7 := Lib.hid (B5.out.trans ((hb6.trans ((below_one w6 _).mono (Nat.le_trans B5.out.size hb6.size))).trans hb7))
    rw [bytesV_more] at ho7
    have C3' := Lib.hid (C3.out w7 a7 c7 (holdsB_of_values (owns_holds ho7) (fun b hb => by
      rcases List.mem_append.1 hb with hb | hb
      · exact IB.out b hb
      · rw [List.mem_singleton] at hb; rw [hb]; exact HZ.out)) (owns_none ho7).2)
    clear ho6 hb6 hn6 ho7 hb7 hn7 C3 B5 H5 HV5
    with_reducible refine C3'.out.mono ?_
    rintro e w8 ⟨rfl, hb⟩
    have B8 := Lib.hid (B7.out.trans (hb.mono B7.out.size))
    clear hb C3' B7
    go_wp2_with fail
    refine (awake9_any _).mono ?_
    rintro e w' ⟨rfl, hb⟩
    have B9 := Lib.hid (B8.out.trans (hb.mono B8.out.size))
    clear hb
    go_wp2_with fail
    go_ret
    exact ⟨rfl, B9.out⟩
  · obtain ⟨v, hv⟩ : ∃ v, goodV ts = v := ⟨_, rfl⟩
    have hv0 : v ≠ 0 := by rw [← hv]; exact q2
    have CB := Lib.hid (fun (w1 : World) (hb : Below w.heap.size w w1) => pOf_bad a n cap ts v w1 (HH.out.below hb) hn hsz hv hv0)
    have hb1 : (v != 0) = true := by simpa using hv0
    clear hv q2
    go_enter Try.func6, Try.ntmps6
    go_wp2_with fail
    with_reducible refine CG.out.mono ?_
    rintro e w1 ⟨rfl, hb⟩
    have B1 := Lib.hid hb
    have CB1 := Lib.hid (CB.out w1 hb)
    clear hb CG CB
    go_wp2_with fail
    with_reducible refine CB1.out.mono ?_
    rintro e w2 ⟨rfl, hb⟩
    have B2 := Lib.hid (B1.out.trans (hb.mono B1.out.size))
    clear hb B1 CB1
    go_wp2_with fail
    refine (awake9_any _).mono ?_
    rintro e w' ⟨rfl, hb⟩
    have B3 := Lib.hid (B2.out.trans (hb.mono B2.out.size))
    clear hb
    go_wp2_with fail
    go_ret
    exact ⟨rfl, B3.out⟩
open Go.ChangeShapes Go.WideShapes Go.ChangeAt in
theorem packTurned_walk {H : Type} {enc : TypeId × Value → H} (W : World) (base : Nat) (v0 v1 v2 : Value) (d0 d1 d2 : DataW H) (p0 p1 p2 : List MemPlace)
    (h0 : DataW.Trod enc Try.prog W 0 (fun _ => true) true 22 v0 d0 p0) (h1 : DataW.Trod enc Try.prog W 0 (fun _ => true) true 3 v1 d1 p1) (h2 : DataW.Trod enc Try.prog W 0 (fun _ => true) true 3 v2 d2 p2)
    (o0 : Value.okWide Try.prog W .any base 22 v0) (o1 : Value.okWide Try.prog W .any base 3 v1) (o2 : Value.okWide Try.prog W .any base 3 v2) :
    Calls Try.prog 6 #[v0, v1, v2] W fun e w' => e = .returned (.bool true) ∧ RowKit.Below W.heap.size W w' := by
  obtain ⟨a0, n0, c0, t0, rfl, x0, y0, z0, b0, s0⟩ := open_texts_arg o0 h0
  obtain ⟨k, rfl, rfl, rfl, wk⟩ := open_int Try.underlying3 o1 h1
  obtain ⟨s, rfl, rfl, rfl, _⟩ := open_int Try.underlying3 o2 h2
  exact packTurned_any a0 n0 c0 t0 k s W x0 z0 b0 s0
end Go.Proofs.Ytlcmndbnknifhaa
