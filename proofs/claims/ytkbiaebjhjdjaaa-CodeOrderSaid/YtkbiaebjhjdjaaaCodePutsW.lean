/- the law that numbers and texts are laid behind any bytes as the document says -/
import Derived.Test.YtkbiaebjhjdjaaaCd7
import Derived.Test.YtkbiaebjhjdjaaaOpB2
import Derived.Test.YtkbiaebjhjdjaaaLendBytes
import Derived.Test.YtkbiaebjhjdjaaaKeptBytes
import Derived.Test.YtkbiaebjhjdjaaaOverBytes
namespace Go.Proofs.Ytkbiaebjhjdjaaa
open Go.RowKit
set_option linter.unusedVariables false
theorem putV_lt (bs : List Nat) (v s : Nat) (hb : ∀ b ∈ bs, b < 256) : ∀ b ∈ bs ++ Cod.bytesOf v s, b < 256 := fun b h => (List.mem_append.1 h).elim (hb b) (Cod.bytesOf_lt v s b)
theorem putTextV_lt (bs : List Nat) (s : ByteArray) (hb : ∀ b ∈ bs, b < 256) : ∀ b ∈ putTextV bs s, b < 256 := fun b h => (List.mem_append.1 h).elim (putV_lt bs _ _ hb b) (strB_lt _ b)
theorem putTextV_length (bs : List Nat) (s : ByteArray) : (putTextV bs s).length ≤ bs.length + 65537 := by
  unfold putTextV
  rw [List.length_append, List.length_append, Cod.bytesOf_length, strB_length, cutS_size]; omega
theorem putV_length (bs : List Nat) (v : Nat) (size : Int) : (bs ++ Cod.bytesOf v (sizeV size)).length ≤ bs.length + 8 := by
  rw [List.length_append, Cod.bytesOf_length]; unfold sizeV; omega
set_option maxHeartbeats 1600000 in
theorem codePuts_any (a : Option Addr) (n cap : Nat) (bs : List Nat) (v size : Int) (s : ByteArray) (w : World) (h : HoldsB w a n bs) (hnil : a = none → n = 0 ∧ cap = 0) (hn : n ≤ 9223372036854775807) (hs : s.size ≤ 9223372036854775807) :
    Calls Try.prog 3 #[.slice a n cap, .int .i64 v, .int .i64 size, .string s] w fun e w' => e = .returned (.bool true) ∧ Below w.heap.size w w' := by
  have H := Lib.hid h; have HN := Lib.hid hnil
  clear h hnil
  by_cases hbig : n ≤ 200
  · have hd1 : decide ((200 : Int) < (n : Int)) = false := by rw [decide_eq_false_iff_not]; omega
    by_cases hbig2 : s.size ≤ 70000
    · have hd2 : decide ((70000 : Int) < (s.size : Int)) = false := by rw [decide_eq_false_iff_not]; omega
      have hl := H.out.len
      have L1 := putV_length bs (bitsV v) size
      have L2 := putTextV_length bs s
      have P1 := putV_lt bs (bitsV v) (sizeV size) H.out.2
      have P2 := putTextV_lt bs s H.out.2
      obtain ⟨X, hX⟩ : ∃ X, bs ++ Cod.bytesOf (bitsV v) (sizeV size) = X := ⟨_, rfl⟩
      obtain ⟨Y, hY⟩ : ∃ Y, putTextV bs s = Y := ⟨_, rfl⟩
      rw [hX] at L1 P1; rw [hY] at L2 P2
      have L1' : X.length ≤ 1048576 := by omega
      have L2' : Y.length ≤ 1048576 := by omega
      have HX := Lib.hid hX; have HY := Lib.hid hY; have HL := Lib.hid hl; have HP1 := Lib.hid P1; have HP2 := Lib.hid P2
      clear L1 L2 hX hY hl P1 P2
      go_enter Try.func3, Try.ntmps3
      go_wp2_with fail
      refine (lendBytes_any a n cap (bytesV bs) _ H.out.values HN.out (by omega) (bytesV_one bs)).mono ?_
      rintro e w1 ⟨rfl, hb1, hR⟩
      have hin := roomy_bytes HL.out H.out.2 hR
      have hlt := hR.lt
      have HR := Lib.hid hR; have HI := Lib.hid hin; have B1 := Lib.hid hb1
      clear hR hin hb1
      go_wp2_with fail
      refine (put_any _ n _ bs v size _ HI.out (some_none _) (by omega)).mono ?_
      rintro e w2 ⟨a2, c2, rfl, hown2, hb2, hnil2⟩
      rw [HX.out] at hown2 ⊢
      have O2 := Lib.hid hown2; have B2 := Lib.hid hb2
      clear hown2 hb2 hnil2
      go_wp2_with fail
      refine (putText_any _ n _ bs s _ (HI.out.below B2.out) (some_none _) (by omega) (by omega)).mono ?_
      rintro e w3 ⟨a3, c3, rfl, hown3, hb3, hnil3⟩
      rw [HY.out] at hown3 ⊢
      have O3 := Lib.hid hown3; have B3 := Lib.hid hb3
      have s2 := B2.out.size; have s3 := B3.out.size; have s1 := B1.out.size
      have B13 := Lib.hid (B2.out.trans (B3.out.mono s2))
      clear hown3 hb3 hnil3
      go_wp2_with fail
      refine (rput_any _ n _ bs v size _ (H.out.below (B1.out.trans (B13.out.mono s1))) HN.out (by omega)).mono ?_
      rintro e w4 ⟨a4, c4, rfl, hown4, hb4, hnil4⟩
      rw [HX.out] at hown4 ⊢
      have O4 := Lib.hid hown4; have B4 := Lib.hid hb4
      have s4 := B4.out.size
      have B14 := Lib.hid (B13.out.trans (B4.out.mono (by omega)))
      clear hown4 hb4 hnil4
      go_wp2_with fail
      refine (sameB_any _ _ _ _ _ _ X X _ ((own_holdsB O2.out HP1.out).below (B3.out.trans (B4.out.mono s3))) (own_holdsB O4.out HP1.out) (by omega) (by omega)).mono ?_
      rintro e w' ⟨rfl, m1, rfl⟩
      rw [decide_eq_true rfl]
      have B15 := Lib.hid (B14.out.trans ((below_drewN w4 m1).mono (by omega)))
      have B35 := Lib.hid (B4.out.trans ((below_drewN w4 m1).mono (by omega)))
      go_wp2_with fail
      refine (rputText_any _ n _ bs s _ (H.out.below (B1.out.trans (B15.out.mono s1))) HN.out (by omega) (by omega)).mono ?_
      rintro e w5 ⟨a5, c5, rfl, hown5, hb5, hnil5⟩
      rw [HY.out] at hown5 ⊢
      have O5 := Lib.hid hown5; have B5 := Lib.hid hb5
      have s5 := B5.out.size; have s15 := B15.out.size; have s35 := B35.out.size
      have B16 := Lib.hid (B15.out.trans (B5.out.mono s15))
      have B36 := Lib.hid (B35.out.trans (B5.out.mono s35))
      have s16 := B16.out.size
      clear hown5 hb5 hnil5
      go_wp2_with fail
      refine (sameB_any _ _ _ _ _ _ Y Y _ ((own_holdsB O3.out HP2.out).below B36.out) (own_holdsB O5.out HP2.out) (by omega) (by omega)).mono ?_
      rintro e w' ⟨rfl, m2, rfl⟩
      rw [decide_eq_true rfl]
      have B17 := Lib.hid (B16.out.trans ((below_drewN w5 m2).mono (by omega)))
      have s17 := B17.out.size
      go_wp2_with fail
      refine (keptBytes_any _ _ n _ _ n _ _ _ (by simpa using HL.out) (HR.out.below B17.out) (H.out.below (B1.out.trans (B17.out.mono s1))).1 (by omega) (by omega)).mono ?_
      rintro e w' ⟨rfl, m3, rfl⟩
      rw [decide_eq_true rfl]
      have B18 := Lib.hid (B16.out.trans ((below_drewN w5 (m2 + m3)).mono (by omega)))
      have s18 := B18.out.size
      have B28 := Lib.hid (B3.out.trans ((B36.out.trans ((below_drewN w5 (m2 + m3)).mono (by omega))).mono s3))
      go_wp2_with fail
      refine (overBytes_any w1.heap.size _ _ _ _ _ (owns_below O2.out B28.out) s18 (by omega)).mono ?_
      rintro e w9 ⟨rfl, hb9⟩
      have B19 := Lib.hid (B18.out.trans hb9)
      have s19 := B19.out.size
      clear hb9
      go_wp2_with fail
      refine (sameB_any _ _ n _ n _ bs bs _ (HI.out.below B19.out) (H.out.below (B1.out.trans (B19.out.mono s1))) (by omega) (by omega)).mono ?_
      rintro e w' ⟨rfl, m4, rfl⟩
      rw [decide_eq_true rfl]
      go_wp2_with fail
      refine (awake_any _).mono ?_
      rintro e w' ⟨rfl, hbz⟩
      go_wp2_with fail
      go_ret
      refine ⟨rfl, ?_⟩
      have e1 := (B1.out.trans (B19.out.mono s1)).trans ((below_drewN w9 m4).mono (by omega))
      exact e1.trans (hbz.mono e1.size)
    · go_enter Try.func3, Try.ntmps3
      go_wp2_with fail
      refine (awake_any _).mono ?_
      rintro e w' ⟨rfl, hb3⟩
      go_wp2_with fail
      go_ret
      exact ⟨rfl, hb3⟩
  · go_enter Try.func3, Try.ntmps3
    go_wp2_with fail
    refine (awake_any _).mono ?_
    rintro e w' ⟨rfl, hb3⟩
    go_wp2_with fail
    go_ret
    exact ⟨rfl, hb3⟩
open Go.ChangeShapes Go.WideShapes Go.ChangeAt in
open Go.ChangeMaps (open_string) in
theorem codePuts_walk {H : Type} {enc : TypeId × Value → H} (W : World) (base : Nat) (v0 v1 v2 v3 : Value) (d0 d1 d2 d3 : DataW H) (p0 p1 p2 p3 : List MemPlace)
    (h0 : DataW.Trod enc Try.prog W 0 (fun _ => true) true 22 v0 d0 p0) (h1 : DataW.Trod enc Try.prog W 0 (fun _ => true) true 3 v1 d1 p1) (h2 : DataW.Trod enc Try.prog W 0 (fun _ => true) true 3 v2 d2 p2) (h3 : DataW.Trod enc Try.prog W 0 (fun _ => true) true 9 v3 d3 p3)
    (o0 : Value.okWide Try.prog W .any base 22 v0) (o1 : Value.okWide Try.prog W .any base 3 v1) (o2 : Value.okWide Try.prog W .any base 3 v2) (o3 : Value.okWide Try.prog W .any base 9 v3) :
    Calls Try.prog 3 #[v0, v1, v2, v3] W fun e w' => e = .returned (.bool true) ∧ RowKit.Below W.heap.size W w' := by
  obtain ⟨a, n, cap, xs, rfl, hh, hnil, h3', h4⟩ := open_bytes_arg o0 h0
  obtain ⟨k, rfl, rfl, rfl, wk⟩ := open_int Try.underlying3 o1 h1
  obtain ⟨s, rfl, rfl, rfl, _⟩ := open_int Try.underlying3 o2 h2
  obtain ⟨t, rfl, rfl, rfl, ws⟩ := open_string Try.underlying9 o3 h3
  exact codePuts_any a n cap xs k s t W hh hnil (by unfold maxLen at h4; omega) (by unfold maxLen at ws; omega)
end Go.Proofs.Ytkbiaebjhjdjaaa
