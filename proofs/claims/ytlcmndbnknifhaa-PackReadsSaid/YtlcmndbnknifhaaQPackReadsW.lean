/- pack: any bytes are read as the document says -/
import Derived.Test.YtlcmndbnknifhaaPkD
import Derived.Test.YtlcmndbnknifhaaPkE
namespace Go.Proofs.Ytlcmndbnknifhaa
open Go.RowKit
set_option linter.unusedVariables false
set_option maxRecDepth 20000
theorem roomy_own9 {w : World} {B : Nat} {e : TypeId} {mark : Value} {n : Nat} {xs : List Value} {k : Nat} (h : Roomy w B e mark n xs k) (hl : xs.length = n) (hn : n + 3 ≤ maxLen) : w.ownsRow B e 1 (.slice (some ⟨B, 0, none⟩) n (n + 3)) n xs := by
  obtain ⟨cs, h1, h2, h3, h4⟩ := h
  refine ⟨by omega, Or.inr ⟨B, n + 3, cs, rfl, Nat.le_refl _, h1, by omega, hn, by omega, ?_⟩⟩
  apply List.ext_getElem?
  intro i
  rw [List.getElem?_take, Nat.mul_one]
  by_cases hi : i < n
  · rw [if_pos hi, Array.getElem?_toList, h3 i hi, List.getD_eq_getElem?_getD, List.getElem?_eq_getElem (by omega)]; rfl
  · rw [if_neg hi, List.getElem?_eq_none (by omega)]
theorem kept_yes9 (B : Nat) (a : Option Addr) (n cap : Nat) (bs : List Nat) (w : World) (hR : Roomy w B 5 (.int .u8 119) n (bytesV bs) 3) (h : HoldsB w a n bs) (hn : n ≤ 1048576) :
    Calls Try.prog 20 #[.slice (some ⟨B, 0, none⟩) n (n + 3), .slice a n cap] w fun e w' => e = .returned (.bool true) ∧ Below w.heap.size w w' := by
  have := keptBytes_any B 5 n (bs.map fun b : Nat => (b : Int)) a n cap (bs.map fun b : Nat => (b : Int)) w (by simpa using h.len) hR h.1 hn hn
  rw [decide_eq_true rfl] at this
  refine this.mono ?_
  rintro e w' ⟨rfl, m, rfl⟩
  exact ⟨rfl, below_drewN _ _⟩
set_option maxHeartbeats 3200000 in
theorem packReads_any (a : Option Addr) (n cap : Nat) (bs : List Nat) (w : World) (h : HoldsB w a n bs) (hnil : a = none → n = 0 ∧ cap = 0) (hc : n ≤ cap) (hn : n ≤ 9223372036854775807) :
    Calls Try.prog 4 #[.slice a n cap] w fun e w' => e = .returned (.bool true) ∧ Below w.heap.size w w' := by
  by_cases hbig : 3000 < n
  · have d1 : decide ((3000 : Int) < (n : Int)) = true := decide_eq_true (by omega)
    clear h hnil hbig
    go_enter Try.func4, Try.ntmps4
    go_wp2_with fail
    refine (awake9_any _).mono ?_
    rintro e w' ⟨rfl, hb⟩
    go_wp2_with fail
    go_ret
    exact ⟨rfl, hb⟩
  have d1 : decide ((3000 : Int) < (n : Int)) = false := decide_eq_false (by omega)
  have CL := Lib.hid (lendBytes_any a n cap (bytesV bs) w h.values hnil (by omega) (bytesV_one _))
  have HL := Lib.hid h.len
  have HB := Lib.hid h.2
  have HH := Lib.hid h
  obtain ⟨B, hB⟩ : ∃ B, w.heap.size = B := ⟨_, rfl⟩
  have HBE := Lib.hid hB
  have n30 : n ≤ 3000 := by omega
  rw [hB] at CL
  have LV := Lib.hid (show (bytesV bs).length = n from by rw [bytesV_length]; exact h.len)
  cases hd : decS bs with
  | some ts =>
    obtain ⟨m, hm⟩ : ∃ m, ts.length = m := ⟨_, rfl⟩
    have hv := (decS_some hd).1
    have m60 : m ≤ 60 := by rw [← hm]; exact (goodV_zero hv).1
    have OK := Lib.hid (grS_ok hv (fun t ht => by have := good_sizes hv t ht; omega))
    obtain ⟨st, hst⟩ : ∃ st, grS ts = st := ⟨_, rfl⟩
    have CD := Lib.hid (fun (w1 : World) (h : HoldsB w1 (some ⟨B, 0, none⟩) n bs) => decode_yes (some ⟨B, 0, none⟩) n (n + 3) bs ts st (w0 := w1) w1 (Below.refl _ _) h (by omega) (by omega) hd hst)
    have CR := Lib.hid (fun (w1 : World) (h : HoldsB w1 a n bs) => rdec_yes a n cap bs ts m w1 h hc (by omega) hd hm)
    have CW := Lib.hid (fun g S (w1 : World) (c : CtxG w w1 g st S) => gWords_c9 ts m (hst ▸ OK.out) (by omega) hm w1 c)
    have HM := Lib.hid hm
    clear h hnil hbig hd hm hv hst hB
    go_enter Try.func4, Try.ntmps4
    go_wp2_with fail
    with_reducible refine CL.out.mono ?_
    rintro e w1 ⟨rfl, hb, hr⟩
    have R1 := Lib.hid hr
    have B1 := Lib.hid (show Below w.heap.size w w1 from HBE.out.symm ▸ hb)
    have CD1 := Lib.hid (CD.out w1 (roomy_bytes HL.out HB.out hr))
    clear hb hr CL CD
    go_wp2_with fail
    with_reducible refine CD1.out.mono ?_
    rintro e w2 ⟨g, S, rfl, C, hb⟩
    have C2 := Lib.hid C
    have R2 := Lib.hid (R1.out.below hb)
    have B2 := Lib.hid (B1.out.trans (hb.mono B1.out.size))
    have CR1 := Lib.hid (CR.out w2 (HH.out.below B2.out))
    have S2 := Lib.hid (show B < w2.heap.size from R2.out.lt)
    have S1 := Lib.hid (show B < w1.heap.size from R1.out.lt)
    clear C hb CD1 CR R1 B1
    go_wp2_with fail
    with_reducible refine CR1.out.mono ?_
    rintro e w3 ⟨wa, wc, rfl, ho, hb⟩
    have C3 := Lib.hid (C2.out.more hb)
    have R3 := Lib.hid (R2.out.below hb)
    have B3 := Lib.hid (B2.out.trans (hb.mono B2.out.size))
    have O3 := Lib.hid ho
    have CK := Lib.hid (kept_yes9 B a n cap bs w3 R3.out (HH.out.below B3.out) (by omega))
    clear ho hb CR1 C2 R2 B2
    go_wp2_with fail
    refine (num9_any _ _).mono ?_
    rintro e w4 ⟨rfl, rfl⟩
    go_wp2_with fail
    with_reducible refine CK.out.mono ?_
    rintro e w4 ⟨rfl, hb⟩
    have C4 := Lib.hid (C3.out.more hb)
    have R4 := Lib.hid (R3.out.below hb)
    have B4 := Lib.hid (B3.out.trans (hb.mono B3.out.size))
    have O4 := Lib.hid (owns_below O3.out hb)
    have CV := Lib.hid (ovgBytes_any w.heap.size (some ⟨B, 0, none⟩) n (n + 3) (bytesV bs) w4 (base_less9 (roomy_own9 R4.out LV.out (by unfold maxLen; omega)) (by rw [HBE.out]; omega)) B4.out.size (by omega))
    clear hb CK C3 R3 B3 O3
    go_wp2_with fail
    with_reducible refine CV.out.mono ?_
    rintro e w5 ⟨rfl, hb, hg⟩
    have B5 := Lib.hid (B4.out.trans hb)
    have tg := turn_grown9 hg
    have C5 := Lib.hid (show CtxG w w5 g st S from ⟨(gAt_ok g st).turn C4.out.G tg (fun k hk e => by
        have h1 := C4.out.s k hk
        have h2 := S1.out
        injection e with e
        simp only at e
        omega), fun k hk => by have h1 := C4.out.s k hk; have h2 := S1.out; have h3 := HBE.out; omega, B5.out⟩)
    have HT5 := Lib.hid (show HoldsT w5 wa m ts from (HoldsT.own O4.out).spared hg (fun ad e e2 => by
      obtain ⟨qb, cp, hvv⟩ | hz : (∃ qb cp, (Value.slice wa m wc) = .slice (some ⟨qb, 0, none⟩) m cp) ∨ m = 0 := by
        rcases Nat.eq_zero_or_pos m with h0 | h0
        · exact Or.inr h0
        · obtain ⟨qb, cp, hvv⟩ := Joins.ownsRow_form O4.out h0
          exact Or.inl ⟨qb, cp, hvv⟩
      · simp only [Value.slice.injEq] at hvv
        rw [hvv.1] at e
        injection e with e
        subst e
        have h1 := (O4.out.lt qb (by rw [hvv.1]; rfl)).1
        have h2 := S2.out
        injection e2 with e2
        simp only at e2
        omega
      · rcases Joins.ownsRow_forms O4.out with ⟨e1, _⟩ | ⟨qb, cp, e1⟩
        · simp only [Value.slice.injEq] at e1
          rw [e1.1] at e; cases e
        · simp only [Value.slice.injEq] at e1
          rw [e1.1] at e
          injection e with e
          subst e
          have h1 := (O4.out.lt qb (by rw [e1.1]; rfl)).1
          have h2 := S2.out
          injection e2 with e2
          simp only at e2
          omega))
    have CW1 := Lib.hid (CW.out g S w5 C5.out)
    clear hb hg tg CV C4 R4 B4 O4
    go_wp2_with fail
    with_reducible refine CW1.out.mono ?_
    rintro e w6 ⟨a6, c6, rfl, h6, hb⟩
    have B6 := Lib.hid (B5.out.trans (hb.mono B5.out.size))
    have CS := Lib.hid (sameT_yes9 a6 wa m c6 wc ts w6 h6 (HT5.out.below hb) (by omega))
    clear h6 hb CW1 B5 HT5
    go_wp2_with fail
    with_reducible refine CS.out.mono ?_
    rintro e w7 ⟨rfl, hb⟩
    have B7 := Lib.hid (B6.out.trans (hb.mono B6.out.size))
    clear hb CS B6
    go_wp2_with fail
    refine (awake9_any _).mono ?_
    rintro e w' ⟨rfl, hb⟩
    have B8 := Lib.hid (B7.out.trans (hb.mono B7.out.size))
    clear hb
    go_wp2_with fail
    go_ret
    exact ⟨rfl, B8.out⟩
  | none =>
    obtain ⟨x, hx, hxn⟩ : ∃ x : Int, (if openB bs then (8 : Int) else 9) = x ∧ (x != 0) = true := ⟨_, rfl, by cases openB bs <;> rfl⟩
    have CD := Lib.hid (fun (w1 : World) (h : HoldsB w1 (some ⟨B, 0, none⟩) n bs) => decode_no (some ⟨B, 0, none⟩) n (n + 3) bs x w1 h (by omega) (by omega) hd hx)
    have CR := Lib.hid (fun (w1 : World) (h : HoldsB w1 a n bs) => rdec_no a n cap bs x w1 h hc (by omega) hd hx)
    clear h hnil hbig hd hx hB
    go_enter Try.func4, Try.ntmps4
    go_wp2_with fail
    with_reducible refine CL.out.mono ?_
    rintro e w1 ⟨rfl, hb, hr⟩
    have R1 := Lib.hid hr
    have B1 := Lib.hid (show Below w.heap.size w w1 from HBE.out.symm ▸ hb)
    have CD1 := Lib.hid (CD.out w1 (roomy_bytes HL.out HB.out hr))
    clear hb hr CL CD
    go_wp2_with fail
    with_reducible refine CD1.out.mono ?_
    rintro e w2 ⟨rfl, hb⟩
    have R2 := Lib.hid (R1.out.below hb)
    have B2 := Lib.hid (B1.out.trans (hb.mono B1.out.size))
    have CR1 := Lib.hid (CR.out w2 (HH.out.below B2.out))
    clear hb CD1 CR R1 B1
    go_wp2_with fail
    with_reducible refine CR1.out.mono ?_
    rintro e w3 ⟨rfl, hb⟩
    have R3 := Lib.hid (R2.out.below hb)
    have B3 := Lib.hid (B2.out.trans (hb.mono B2.out.size))
    have CK := Lib.hid (kept_yes9 B a n cap bs w3 R3.out (HH.out.below B3.out) (by omega))
    clear hb CR1 R2 B2
    go_wp2_with fail
    refine (num9_any _ _).mono ?_
    rintro e w4 ⟨rfl, rfl⟩
    go_wp2_with fail
    with_reducible refine CK.out.mono ?_
    rintro e w4 ⟨rfl, hb⟩
    have R4 := Lib.hid (R3.out.below hb)
    have B4 := Lib.hid (B3.out.trans (hb.mono B3.out.size))
    have CV := Lib.hid (ovgBytes_any w.heap.size (some ⟨B, 0, none⟩) n (n + 3) (bytesV bs) w4 (base_less9 (roomy_own9 R4.out LV.out (by unfold maxLen; omega)) (by rw [HBE.out]; omega)) B4.out.size (by omega))
    clear hb CK R3 B3
    go_wp2_with fail
    with_reducible refine CV.out.mono ?_
    rintro e w5 ⟨rfl, hb, -⟩
    have B5 := Lib.hid (B4.out.trans hb)
    clear hb CV R4 B4
    go_wp2_with fail
    refine (awake9_any _).mono ?_
    rintro e w' ⟨rfl, hb⟩
    have B8 := Lib.hid (B5.out.trans (hb.mono B5.out.size))
    clear hb
    go_wp2_with fail
    go_ret
    exact ⟨rfl, B8.out⟩
open Go.ChangeShapes Go.WideShapes Go.ChangeAt in
theorem packReads_walk {H : Type} {enc : TypeId × Value → H} (W : World) (base : Nat) (v0 : Value) (d0 : DataW H) (p0 : List MemPlace)
    (h0 : DataW.Trod enc Try.prog W 0 (fun _ => true) true 25 v0 d0 p0)
    (o0 : Value.okWide Try.prog W .any base 25 v0) :
    Calls Try.prog 4 #[v0] W fun e w' => e = .returned (.bool true) ∧ RowKit.Below W.heap.size W w' := by
  obtain ⟨a, n, cap, xs, rfl, hh, hnil, h3, h4⟩ := open_bytes_arg o0 h0
  exact packReads_any a n cap xs W hh hnil h3 (by unfold maxLen at h4; omega)
end Go.Proofs.Ytlcmndbnknifhaa
