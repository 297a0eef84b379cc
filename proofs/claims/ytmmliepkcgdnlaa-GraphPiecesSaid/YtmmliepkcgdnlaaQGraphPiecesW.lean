/- graph: from a text on, in pieces -/
import Derived.Test.YtmmliepkcgdnlaaPkE
namespace Go.Proofs.Ytmmliepkcgdnlaa
open Go.RowKit
set_option linter.unusedVariables false
set_option maxRecDepth 20000
theorem gFrom_c (lo : Tx) (most : Int) (v : List Tx) (m : Nat) {ts : List Tx} {w0 : World} {g : Nat} {st : List GN} {S : Nat → Prop} (G : GOk st ts) (w : World) (c : CtxG w0 w g st S) (hv : fromL ts lo most = v) (hm : v.length = m) :
    Calls Try.prog 28 #[.pointer (some ⟨g, 0, none⟩), .string lo, .int .i64 most] w fun e w' => ∃ a c, e = .returned (.slice a m c) ∧ m ≤ c ∧ HoldsT w' a m v ∧ Below w.heap.size w w' := by
  subst hv hm
  exact (gFrom_any g st ts G S lo most w c.G).mono fun e w' ⟨a, cc, e1, ho, hb⟩ => ⟨a, cc, e1, (owns_none ho).2, HoldsT.own ho, hb⟩
theorem holdsT_takeG {w : World} {a : Option Addr} {n : Nat} {ts : List Tx} (h : HoldsT w a n ts) (k : Nat) (hk : k ≤ n) : HoldsT w a k (ts.take k) := by
  have hl := h.len
  rcases Nat.eq_zero_or_pos k with h0 | h0
  · subst h0; exact HoldsT.nil _ _
  · obtain ⟨b, o, rfl, hc⟩ := h.at (by omega)
    refine HoldsT.of (by rw [List.length_take]; omega) (fun i hi => ?_)
    rw [hc i (by omega), List.getD_eq_getElem?_getD, List.getD_eq_getElem?_getD, List.getElem?_take_of_lt hi]
set_option maxHeartbeats 3200000 in
theorem graphPieces_any (a : Option Addr) (n cap : Nat) (ts : List Tx) (s : Tx) (p p' : Int) (w : World) (hh : HoldsT w a n ts) (hc : n ≤ cap) (hn : n ≤ 9223372036854775807) (hsz : ∀ t ∈ ts, t.size ≤ 9223372036854775807) (hs : s.size ≤ 9223372036854775807) :
    Calls Try.prog 6 #[.slice a n cap, .string s, .int .i64 p, .int .i64 p'] w fun e w' => e = .returned (.bool true) ∧ Below w.heap.size w w' := by
  have CG := Lib.hid (great_any a n cap ts w hh hn hsz)
  have HH := Lib.hid hh
  have HL := Lib.hid hh.len
  by_cases q0 : greatB ts = true
  · rw [q0] at CG
    go_enter Try.func6, Try.ntmps6
    go_wp2_with fail
    refine CG.out.mono ?_
    rintro e w1 ⟨rfl, hb⟩
    have B1 := Lib.hid hb
    clear hb
    go_wp2_with fail
    refine (awakeG_any _).mono ?_
    rintro e w' ⟨rfl, hb⟩
    have B2 := Lib.hid (B1.out.trans (hb.mono B1.out.size))
    clear hb
    go_wp2_with fail
    go_ret
    exact ⟨rfl, B2.out⟩
  have q0' : greatB ts = false := by simpa using q0
  rw [q0'] at CG
  by_cases q1 : 100 < s.size
  · have d1 : decide (100 < s.size) = true := decide_eq_true q1
    go_enter Try.func6, Try.ntmps6
    go_wp2_with fail
    refine CG.out.mono ?_
    rintro e w1 ⟨rfl, hb⟩
    have B1 := Lib.hid hb
    clear hb
    go_wp2_with fail
    refine (awakeG_any _).mono ?_
    rintro e w' ⟨rfl, hb⟩
    have B2 := Lib.hid (B1.out.trans (hb.mono B1.out.size))
    clear hb
    go_wp2_with fail
    go_ret
    exact ⟨rfl, B2.out⟩
  have d1 : decide (100 < s.size) = false := decide_eq_false q1
  obtain ⟨l80, hsm⟩ := great_no_iff.1 q0'
  have hsm : ∀ t ∈ ts, t.size ≤ 100 := hsm
  by_cases q2 : goodV ts = 0
  · have OK := Lib.hid (grS_ok q2 hsm)
    have GE := Lib.hid (fun (x : GN) hx => (show x.edges.length ≤ 1000 from by have := OK.out.few x hx; omega))
    have LO := Lib.hid (fun t (ht : t ∈ ts) => (show 0 ≤ lenS t from (ok_good q2 hsm).lo t ht))
    have SO := Lib.hid (show SortedS ts from (ok_good q2 hsm).ord)
    have CB := Lib.hid (fun (w1 : World) (hb : Below w.heap.size w w1) => build_c (w0 := w) a n cap ts _ w1 hb (HH.out.below hb) hc hn hsm q2 rfl)
    have T60 := Lib.hid (show ts.length ≤ 60 from (goodV_zero q2).1)
    generalize grS ts = st at *
    have n60 : n ≤ 60 := by have := HL.out; have := T60.out; omega
    obtain ⟨la, hla⟩ : ∃ v, lowV p 10 = v := ⟨_, rfl⟩
    obtain ⟨lb, hlb⟩ : ∃ v, lowV p' 10 = v := ⟨_, rfl⟩
    have CA := Lib.hid (fun w => low_any p 10 (by omega) (by omega) w)
    have CB' := Lib.hid (fun w => low_any p' 10 (by omega) (by omega) w)
    have ba := low_bd p 10 (by omega)
    have bb := low_bd p' 10 (by omega)
    rw [hla] at CA ba
    rw [hlb] at CB' bb
    obtain ⟨x, rfl⟩ : ∃ x : Nat, la = x := ⟨la.toNat, by omega⟩
    obtain ⟨y, rfl⟩ : ∃ y : Nat, lb = y := ⟨lb.toNat, by omega⟩
    obtain ⟨F, hF⟩ : ∃ F, onS ts s = F := ⟨_, rfl⟩
    have hFl : F.length ≤ 60 := by have := onS_len ts s; rw [hF] at this; have := T60.out; omega
    have HFR := Lib.hid (show ∀ m : Int, fromL ts s m = F.take m.toNat from fun m => by rw [fromL_on, hF])
    obtain ⟨fn, hfn⟩ : ∃ fn, F.length = fn := ⟨_, rfl⟩
    rw [hfn] at hFl
    obtain ⟨xn, hxn⟩ : ∃ xn, (F.take x).length = xn := ⟨_, rfl⟩
    have hxm : xn = min x fn := by rw [← hxn, List.length_take, hfn]
    have hxn1 : xn ≤ fn := by omega
    have hmin : min (x : Int) (fn : Int) = (xn : Int) := by omega
    have hTX : F.take x = F.take xn := by
      rw [hxm]
      by_cases h : x ≤ fn
      · rw [Nat.min_eq_left h]
      · rw [Nat.min_eq_right (by omega), List.take_of_length_le (by omega), List.take_of_length_le (by omega)]
    clear hxm
    have V1 := Lib.hid (show fromL ts s 100 = F from by rw [HFR.out]; exact List.take_of_length_le (by rw [hfn]; omega))
    rw [hTX] at hxn
    have V2 := Lib.hid (show fromL ts s (x : Int) = F.take xn from by rw [HFR.out, ← hTX]; rfl)
    clear hTX
    have LFN := Lib.hid hfn; have LXN := Lib.hid hxn
    have AW := Lib.hid (fun w => awakeG_any w)
    clear q0 q0' hsm hh q2 hsz hla hlb hfn hxn
    go_enter Try.func6, Try.ntmps6
    go_wp2_with fail
    refine CG.out.mono ?_
    rintro e w1 ⟨rfl, hb⟩
    have B1 := Lib.hid hb
    clear hb CG
    go_wp2_with fail
    refine (CB.out w1 B1.out).mono ?_
    rintro e w2 ⟨g, S, rfl, C, -⟩
    have C2 := Lib.hid C
    clear C B1 CB
    go_wp2_with fail
    refine (CA.out _).mono ?_
    rintro e w3 ⟨rfl, rfl⟩
    go_wp2_with fail
    refine (CB'.out _).mono ?_
    rintro e w3 ⟨rfl, rfl⟩
    have CF := Lib.hid (gFrom_c s 100 F fn OK.out w2 C2.out V1.out LFN.out)
    clear CA CB'
    go_wp2_with fail
    refine CF.out.mono ?_
    rintro e w3 ⟨ua, uc, rfl, hcu, hu, hb⟩
    have U3 := Lib.hid hu
    have C3 := Lib.hid (C2.out.more hb)
    have CF := Lib.hid (gFrom_c s (x : Int) (F.take xn) xn OK.out w3 C3.out V2.out LXN.out)
    clear hu hb C2
    go_wp2_with fail
    refine CF.out.mono ?_
    rintro e w4 ⟨xa, xc, rfl, hcx, hx, hb⟩
    have U4 := Lib.hid (U3.out.below hb)
    have X4 := Lib.hid hx
    have C4 := Lib.hid (C3.out.more hb)
    clear hx hb C3 U3 CF
    go_wp2_with fail
    have CS := Lib.hid (sameTexts_yes xa ua xn xc uc (F.take xn) w4 X4.out (holdsT_takeG U4.out xn hxn1) (by omega))
    refine CS.out.mono ?_
    rintro e w5 ⟨rfl, hb⟩
    have U5 := Lib.hid (U4.out.below hb)
    have X5 := Lib.hid (X4.out.below hb)
    have C5 := Lib.hid (C4.out.more hb)
    clear hb CS U4 X4 C4
    by_cases hx0 : xn = 0
    · subst hx0
      go_wp2_with fail
      refine (AW.out _).mono ?_
      rintro e w' ⟨rfl, hb⟩
      have B2 := Lib.hid (C5.out.more hb)
      clear hb
      go_wp2_with fail
      go_ret
      exact ⟨rfl, B2.out.b⟩
    · obtain ⟨k, rfl⟩ : ∃ k, xn = k + 1 := ⟨xn - 1, by omega⟩
      obtain ⟨bx, ox, rfl, hcx1⟩ := X5.out.at (by omega)
      obtain ⟨bu, ou, rfl, hcu1⟩ := U5.out.at (by omega)
      have xk := hcx1 k (by omega)
      have hgk : (F.take (k + 1)).getD k ByteArray.empty = F.getD k ByteArray.empty := by
        rw [List.getD_eq_getElem?_getD, List.getD_eq_getElem?_getD, List.getElem?_take_of_lt (by omega)]
      obtain ⟨lt, hlt⟩ : ∃ t, F.getD k ByteArray.empty = t := ⟨_, rfl⟩
      rw [hgk, hlt] at xk
      have hon : onS ts lt = F.drop k := by
        rw [← hlt, ← hF]; exact on_last SO.out s k (by rw [hF, LFN.out]; omega)
      obtain ⟨ln, hln⟩ : ∃ ln, min (y + 1) (fn - k) = ln := ⟨_, rfl⟩
      have V3 := Lib.hid (show fromL ts lt ((y : Int) + 1) = (F.drop k).take ln from by
        rw [fromL_on, hon, ← hln, show ((y : Int) + 1).toNat = y + 1 by omega]
        by_cases h : y + 1 ≤ fn - k
        · rw [Nat.min_eq_left h]
        · have hfn := LFN.out
          rw [Nat.min_eq_right (by omega), List.take_of_length_le (by rw [List.length_drop]; omega), List.take_of_length_le (by rw [List.length_drop]; omega)])
      have LLN := Lib.hid (show ((F.drop k).take ln).length = ln from by have := LFN.out; rw [List.length_take, List.length_drop]; omega)
      have hmin2 : min ((y : Int) + 1) ((fn - k : Nat) : Int) = (ln : Int) := by omega
      have hln1 : ln ≤ fn - k := by omega
      have CF := Lib.hid (gFrom_c lt ((y : Int) + 1) _ ln OK.out w5 C5.out V3.out LLN.out)
      have k1 : (0 : Int) ≤ (k : Int) := by omega
      have k2 : (k : Int) < ((k + 1 : Nat) : Int) := by omega
      clear hcx1 hcu1 hgk hlt hln hx0
      go_wp2_with fail
      refine CF.out.mono ?_
      rintro e w6 ⟨ya, yc, rfl, hcy, hy, hb⟩
      have Y6 := Lib.hid hy
      have U6 := Lib.hid (U5.out.below hb)
      have C6 := Lib.hid (C5.out.more hb)
      clear hy hb CF U5 X5 C5 xk
      go_wp2_with fail
      have CS := Lib.hid (sameTexts_yes ya (some ⟨bu, ou + k, none⟩) ln yc (uc - k) ((F.drop k).take ln) w6 Y6.out (holdsT_takeG (U6.out.drop k (by omega)) ln hln1) (by omega))
      refine CS.out.mono ?_
      rintro e w7 ⟨rfl, hb⟩
      have C7 := Lib.hid (C6.out.more hb)
      have CF := Lib.hid (gFrom_c ⟨#[]⟩ 100 ts n OK.out w7 C7.out (by
        rw [fromL_on]
        have e : onS ts ⟨#[]⟩ = ts := List.filter_eq_self.2 (fun t _ => by simpa using cmp_empty t)
        rw [e]
        have := T60.out
        exact List.take_of_length_le (by show ts.length ≤ 100; omega)) HL.out)
      clear hb CS Y6 U6 C6
      go_wp2_with fail
      refine CF.out.mono ?_
      rintro e w8 ⟨za, zc, rfl, hcz, hz, hb⟩
      have C8 := Lib.hid (C7.out.more hb)
      have CS := Lib.hid (sameTexts_yes za a n zc cap ts w8 hz (HH.out.below C8.out.b) (by omega))
      clear hb hz CF C7
      go_wp2_with fail
      refine CS.out.mono ?_
      rintro e w9 ⟨rfl, hb⟩
      have C9 := Lib.hid (C8.out.more hb)
      have CF := Lib.hid (gFrom_c s (-(x : Int)) [] 0 OK.out w9 C9.out (by rw [HFR.out, show (-(x : Int)).toNat = 0 by omega]; rfl) rfl)
      clear hb CS C8
      go_wp2_with fail
      refine CF.out.mono ?_
      rintro e w10 ⟨va, vc, rfl, -, -, hb⟩
      have C10 := Lib.hid (C9.out.more hb)
      clear hb CF C9
      go_wp2_with fail
      refine (AW.out _).mono ?_
      rintro e w' ⟨rfl, hb⟩
      have B2 := Lib.hid (C10.out.more hb)
      clear hb
      go_wp2_with fail
      go_ret
      exact ⟨rfl, B2.out.b⟩
  · obtain ⟨v, hv⟩ : ∃ v, goodV ts = v := ⟨_, rfl⟩
    have hv0 : v ≠ 0 := by rw [← hv]; exact q2
    have CB := Lib.hid (fun (w1 : World) (hb : Below w.heap.size w w1) => build_bad a n cap ts v w1 (HH.out.below hb) hn hsz hv hv0)
    have hb1 : (v != 0) = true := by simpa using hv0
    clear hv q2
    go_enter Try.func6, Try.ntmps6
    go_wp2_with fail
    refine CG.out.mono ?_
    rintro e w1 ⟨rfl, hb⟩
    have B1 := Lib.hid hb
    clear hb CG
    go_wp2_with fail
    refine (CB.out w1 B1.out).mono ?_
    rintro e w2 ⟨rfl, hb⟩
    have B2 := Lib.hid (B1.out.trans (hb.mono B1.out.size))
    clear hb B1
    go_wp2_with fail
    refine (awakeG_any _).mono ?_
    rintro e w' ⟨rfl, hb⟩
    have B3 := Lib.hid (B2.out.trans (hb.mono B2.out.size))
    clear hb
    go_wp2_with fail
    go_ret
    exact ⟨rfl, B3.out⟩
open Go.ChangeShapes Go.WideShapes Go.ChangeAt in
theorem graphPieces_walk {H : Type} {enc : TypeId × Value → H} (W : World) (base : Nat) (v0 v1 v2 v3 : Value) (d0 d1 d2 d3 : DataW H) (p0 p1 p2 p3 : List MemPlace)
    (h0 : DataW.Trod enc Try.prog W 0 (fun _ => true) true 22 v0 d0 p0) (h1 : DataW.Trod enc Try.prog W 0 (fun _ => true) true 9 v1 d1 p1) (h2 : DataW.Trod enc Try.prog W 0 (fun _ => true) true 3 v2 d2 p2) (h3 : DataW.Trod enc Try.prog W 0 (fun _ => true) true 3 v3 d3 p3)
    (o0 : Value.okWide Try.prog W .any base 22 v0) (o1 : Value.okWide Try.prog W .any base 9 v1) (o2 : Value.okWide Try.prog W .any base 3 v2) (o3 : Value.okWide Try.prog W .any base 3 v3) :
    Calls Try.prog 6 #[v0, v1, v2, v3] W fun e w' => e = .returned (.bool true) ∧ RowKit.Below W.heap.size W w' := by
  obtain ⟨a0, n0, c0, t0, rfl, x0, y0, z0, b0, s0⟩ := open_texts_arg o0 h0
  obtain ⟨s1, rfl, rfl, rfl, b1⟩ := Go.ChangeMaps.open_string Try.underlying9 o1 h1
  obtain ⟨x2, rfl, rfl, rfl, b2⟩ := open_int Try.underlying3 o2 h2
  obtain ⟨x3, rfl, rfl, rfl, b3⟩ := open_int Try.underlying3 o3 h3
  exact graphPieces_any a0 n0 c0 t0 s1 x2 x3 W x0 z0 b0 s0 (by unfold maxLen at b1; omega)
end Go.Proofs.Ytmmliepkcgdnlaa
