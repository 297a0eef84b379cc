/- the law of texts that are spoilt -/
import Derived.Test.YtlkckdhenodhgaaTpN
import Derived.Test.YtlkckdhenodhgaaTp3
import Derived.Test.YtlkckdhenodhgaaLowV
import Derived.Deep.RegionHeld3
import Derived.BigRegion
namespace Go.Proofs.Ytlkckdhenodhgaa
open Go.RowKit
set_option linter.unusedVariables false
theorem list_beq_self (x : List UInt8) : (x == x) = true := by simp
set_option maxRecDepth 100000 in
theorem bits_spoil : ∀ v : Fin 8, bits .or .u8 248 (v.val : Int) = 248 + (v.val : Int) := by decide
theorem nums_size (xs : List Int) : (strOfNums xs).size = xs.length := by simp [strOfNums, ByteArray.size]
theorem nums_one (V : Int) (h : 0 ≤ V ∧ V < 256) : (strOfNums [V]).size = 1 ∧ byteS (strOfNums [V]) 0 = V.toNat := by
  have h1 : (strOfNums [V]).size = 1 := nums_size _
  refine ⟨h1, ?_⟩
  rw [← byteS_at _ 0 (by omega)]
  show (UInt8.ofNat V.toNat).toNat = V.toNat
  rw [UInt8.toNat_ofNat']
  omega
set_option maxHeartbeats 3200000 in
theorem textSpoilt_any (s : ByteArray) (at' v : Int) (w : World) (h1 : s.size ≤ 9223372036854775807) (hv : 0 ≤ v ∧ v < 256) :
    Calls Try.prog 8 #[.string s, .int .i64 at', .int .u8 v] w fun e w' => e = .returned (.bool true) ∧ Below w.heap.size w w' := by
  by_cases hlong : 100 < s.size
  · go_enter Try.func8, Try.ntmps8
    go_wp2_with fail
    refine (awake_any _).mono ?_
    rintro e w' ⟨rfl, hb⟩
    go_wp2_with fail
    go_ret
    exact ⟨rfl, hb⟩
  have hls : s.size ≤ 100 := by omega
  have L1 := Lib.hid (fun w => len_any s w (by omega))
  by_cases hg : 0 ≤ lenS s
  case neg =>
    obtain ⟨n, hn⟩ : ∃ n, lenS s = n := ⟨_, rfl⟩
    simp only [hn] at L1 hg
    clear hn
    go_enter Try.func8, Try.ntmps8
    go_wp2_with fail
    refine (L1.out _).mono ?_
    rintro e w1 ⟨rfl, hb1⟩
    have B1 := Lib.hid hb1
    clear hb1
    go_wp2_with fail
    refine (awake_any _).mono ?_
    rintro e w3 ⟨rfl, hb3⟩
    have B3 := Lib.hid (B1.out.trans (hb3.mono B1.out.size))
    clear hb3
    go_wp2_with fail
    go_ret
    exact ⟨rfl, B3.out⟩
  have hlow := low_bd at' ((s.size : Int) + 1) (by omega)
  have hlowc := Lib.hid (fun w => low_any at' ((s.size : Int) + 1) (by omega) (by omega) w)
  obtain ⟨k, hk⟩ : ∃ k : Nat, lowV at' ((s.size : Int) + 1) = (k : Int) := ⟨(lowV at' ((s.size : Int) + 1)).toNat, by omega⟩
  rw [hk] at hlow hlowc
  have hks : k ≤ s.size := by omega
  have hb := bits_spoil ⟨(v % 8).toNat, by omega⟩
  simp only [Int.toNat_of_nonneg (show 0 ≤ v % 8 by omega)] at hb
  obtain ⟨V, hV⟩ : ∃ V, 248 + v % 8 = V := ⟨_, rfl⟩
  rw [hV] at hb
  have hVb : 248 ≤ V ∧ V ≤ 255 := by omega
  obtain ⟨n, hn⟩ : ∃ n, lenS s = n := ⟨_, rfl⟩
  have G := Lib.hid (show 0 ≤ lenS s from hg)
  simp only [hn] at L1 hg
  have hsw : IntKind.i64.wrap ((s.size : Int) + 1) = (s.size : Int) + 1 := IntWalk.i64_in _ (by omega)
  have g1 : (k : Int) ≤ (s.size : Int) := by omega
  have g0 : (0 : Int) ≤ (k : Int) := by omega
  clear hn hk hV hlow
  go_enter Try.func8, Try.ntmps8
  go_wp2_with fail
  refine (L1.out _).mono ?_
  rintro e w1 ⟨rfl, hb1⟩
  have B1 := Lib.hid hb1
  clear hb1
  go_wp2_with fail
  refine (hlowc.out _).mono ?_
  rintro e w' ⟨rfl, rfl⟩
  obtain ⟨s1, s2⟩ := nums_one V (by omega)
  have hcell0 : ∀ i, i < 1 → (w1.alloc (.cells #[.int .u8 V] 5)).drew.cell? ⟨w1.heap.size, 0 + i, none⟩ = some (.int .u8 ([V].getD i 0)) := by
    intro i hi
    obtain rfl : i = 0 := by omega
    show (w1.alloc (.cells #[.int .u8 V] 5)).cell? _ = _
    simp
  have hconv : (convert 39 9 (.slice (some ⟨w1.heap.size, 0, none⟩) 1 1)).run Try.prog (w1.alloc (.cells #[.int .u8 V] 5)).drew = .ok (.string (strOfNums [V])) (w1.alloc (.cells #[.int .u8 V] 5)).drew :=
    run_convert_bytes_arg (P := Try.prog) _ 39 5 Try.underlying39 Try.underlying5 w1.heap.size 0 1 1 [V] rfl (fun i hi => hcell0 i hi) 9 Try.underlying9
  obtain ⟨x1, x2⟩ := extract_size s k hks
  obtain ⟨A, hA⟩ : ∃ A, s.extract 0 k = A := ⟨_, rfl⟩
  obtain ⟨Z, hZ⟩ : ∃ A, s.extract k s.size = A := ⟨_, rfl⟩
  obtain ⟨M, hM⟩ : ∃ M, strOfNums [V] = M := ⟨_, rfl⟩
  rw [hM] at s1 s2 hconv
  have HJ := Lib.hid (extract_join s k hks)
  rw [hA, hZ] at HJ
  rw [hA] at x1; rw [hZ] at x2
  have hspoil : lenS (A ++ M ++ Z) = -1 := by
    refine lenS_spoilt _ k (by rw [ByteArray.size_append, ByteArray.size_append]; omega) ?_
    rw [byteS_left (A ++ M) Z k (by rw [ByteArray.size_append]; omega)]
    have := byteS_right A M 0
    rw [Nat.add_zero, x1] at this
    rw [this, s2]; omega
  have hxs : (A ++ M ++ Z).size ≤ 1048576 := by rw [ByteArray.size_append, ByteArray.size_append]; omega
  clear hM hcell0
  go_upto_region 4 with fail
  go_region
  obtain ⟨X, hX⟩ : ∃ X, A ++ M ++ Z = X := ⟨_, rfl⟩
  rw [hX] at hspoil hxs
  simp only [hX]
  have B2 := Lib.hid (B1.out.trans (((below_one w1 (.cells #[.int .u8 V] 5)).trans (Below.refl _ _).drew).mono B1.out.size))
  generalize (w1.alloc (.cells #[.int .u8 V] 5)).drew = w2 at *
  have LX := Lib.hid (fun w => len_any X w (by omega))
  have WX := Lib.hid (fun w => word_any X w (by omega))
  have AX := Lib.hid (fun w => asked_any X w (by omega))
  simp only [hspoil] at LX WX AX
  rw [show decide ((1 : Int) ≤ -1 ∧ (-1 : Int) ≤ 12) = false by decide] at WX
  rw [show decide ((0 : Int) ≤ -1 ∧ (-1 : Int) ≤ 16) = false by decide] at AX
  clear hX hconv hb hspoil hxs s1 s2
  go_wp2_with fail
  refine (LX.out _).mono ?_
  rintro e w3 ⟨rfl, hb3⟩
  have B3 := Lib.hid (B2.out.trans (hb3.mono B2.out.size))
  clear hb3
  go_wp2_with fail
  refine (WX.out _).mono ?_
  rintro e w4 ⟨rfl, hb4⟩
  have B4 := Lib.hid (B3.out.trans (hb4.mono B3.out.size))
  clear hb4
  go_wp2_with fail
  refine (AX.out _).mono ?_
  rintro e w5 ⟨rfl, hb5⟩
  have B5 := Lib.hid (B4.out.trans (hb5.mono B4.out.size))
  clear hb5
  by_cases hkl : k < s.size
  · have hx := byteS_at s k hkl
    have hcl := byteS_lt s k
    have hz0 : byteS Z 0 = byteS s k := by
      have := byteS_right A Z 0
      rw [Nat.add_zero, x1, HJ.out] at this
      exact this.symm
    obtain ⟨c, hc⟩ : ∃ c, byteS s k = c := ⟨_, rfl⟩
    rw [hc] at hx hcl hz0
    have HZ0 := Lib.hid hz0
    clear hc hz0
    have hcase : c < 128 ∨ (128 ≤ c ∧ 191 < c) ∨ (128 ≤ c ∧ c ≤ 191) := by omega
    rcases hcase with h5 | ⟨h5, h6⟩ | ⟨h5, h6⟩
    · go_wp2_with fail
      refine (awake_any _).mono ?_
      rintro e w6 ⟨rfl, hb6⟩
      have B6 := Lib.hid (B5.out.trans (hb6.mono B5.out.size))
      clear hb6
      go_wp2_with fail
      go_ret
      exact ⟨rfl, B6.out⟩
    · go_wp2_with fail
      refine (awake_any _).mono ?_
      rintro e w6 ⟨rfl, hb6⟩
      have B6 := Lib.hid (B5.out.trans (hb6.mono B5.out.size))
      clear hb6
      go_wp2_with fail
      go_ret
      exact ⟨rfl, B6.out⟩
    · have l1 := lenS_ahead A Z (by rw [HJ.out]; exact G.out) (by omega) (by rw [HZ0.out]; exact ⟨h5, h6⟩)
      have l2 := lenS_behind Z (by omega) (by rw [HZ0.out]; exact ⟨h5, h6⟩)
      have LA := Lib.hid (fun w => len_any A w (by omega))
      have LZ := Lib.hid (fun w => len_any Z w (by omega))
      rw [l1] at LA; rw [l2] at LZ
      clear l1 l2
      go_wp2_with fail
      refine (LA.out _).mono ?_
      rintro e w6 ⟨rfl, hb6⟩
      have B6 := Lib.hid (B5.out.trans (hb6.mono B5.out.size))
      clear hb6
      go_wp2_with fail
      refine (LZ.out _).mono ?_
      rintro e w7 ⟨rfl, hb7⟩
      have B7 := Lib.hid (B6.out.trans (hb7.mono B6.out.size))
      clear hb7
      go_wp2_with fail
      refine (awake_any _).mono ?_
      rintro e w8 ⟨rfl, hb8⟩
      have B8 := Lib.hid (B7.out.trans (hb8.mono B7.out.size))
      clear hb8
      go_wp2_with fail
      go_ret
      exact ⟨rfl, B8.out⟩
  · go_wp2_with fail
    refine (awake_any _).mono ?_
    rintro e w6 ⟨rfl, hb6⟩
    have B6 := Lib.hid (B5.out.trans (hb6.mono B5.out.size))
    clear hb6
    go_wp2_with fail
    go_ret
    exact ⟨rfl, B6.out⟩
theorem u8_wf {v : Int} (h : (Lit.int .u8 v).wf = true) : 0 ≤ v ∧ v < 256 := by
  simp [Lit.wf, IntKind.min, IntKind.max, IntKind.signed, IntKind.bits] at h; omega
open Go.ChangeShapes Go.WideShapes Go.ChangeAt in
open Go.ChangeMaps (open_string) in
theorem textSpoilt_walk {H : Type} {enc : TypeId × Value → H} (W : World) (base : Nat) (v0 v1 v2 : Value) (d0 d1 d2 : DataW H) (p0 p1 p2 : List MemPlace)
    (h0 : DataW.Trod enc Try.prog W 0 (fun _ => true) true 9 v0 d0 p0) (h1 : DataW.Trod enc Try.prog W 0 (fun _ => true) true 3 v1 d1 p1) (h2 : DataW.Trod enc Try.prog W 0 (fun _ => true) true 5 v2 d2 p2)
    (o0 : Value.okWide Try.prog W .any base 9 v0) (o1 : Value.okWide Try.prog W .any base 3 v1) (o2 : Value.okWide Try.prog W .any base 5 v2) :
    Calls Try.prog 8 #[v0, v1, v2] W fun e w' => e = .returned (.bool true) ∧ RowKit.Below W.heap.size W w' := by
  obtain ⟨s, rfl, rfl, rfl, ws⟩ := open_string Try.underlying9 o0 h0
  obtain ⟨t, rfl, rfl, rfl, _⟩ := open_int Try.underlying3 o1 h1
  obtain ⟨v, rfl, rfl, rfl, wv⟩ := open_int Try.underlying5 o2 h2
  exact textSpoilt_any s t v W (by unfold maxLen at ws; omega) (u8_wf wv)
end Go.Proofs.Ytlkckdhenodhgaa
