/- the law that a number's bytes are those of its upper part and those of its lower one -/
import Derived.Test.YtkbiaebjhjdjaaaCodeBackW
namespace Go.Proofs.Ytkbiaebjhjdjaaa
open Go.RowKit
set_option linter.unusedVariables false
theorem byte_int (n : Int) (j : Nat) (h : j ≤ 7) : ((bitsV n / 256 ^ j % 256 : Nat) : Int) = n / 256 ^ j % 256 := by
  have e : (bitsV n : Int) = n % 18446744073709551616 := by
    rw [← bitsV_eq]; simp only [IntKind.wrap, IntKind.signed, IntKind.bits]; simp
  rw [Int.natCast_emod, Int.natCast_ediv, Int.natCast_pow, e]
  match j, h with
  | 0, _ => simp
  | 1, _ => show n % 18446744073709551616 / 256 % 256 = n / 256 % 256; omega
  | 2, _ => show n % 18446744073709551616 / 65536 % 256 = n / 65536 % 256; omega
  | 3, _ => show n % 18446744073709551616 / 16777216 % 256 = n / 16777216 % 256; omega
  | 4, _ => show n % 18446744073709551616 / 4294967296 % 256 = n / 4294967296 % 256; omega
  | 5, _ => show n % 18446744073709551616 / 1099511627776 % 256 = n / 1099511627776 % 256; omega
  | 6, _ => show n % 18446744073709551616 / 281474976710656 % 256 = n / 281474976710656 % 256; omega
  | 7, _ => show n % 18446744073709551616 / 72057594037927936 % 256 = n / 72057594037927936 % 256; omega
theorem div_div (n : Int) (q t : Nat) : n / 256 ^ q / 256 ^ t = n / 256 ^ (q + t) := by
  rw [Int.ediv_ediv, if_neg (by intro h; have : (0 : Int) < 256 ^ q := Int.pow_pos (by decide); omega), Int.sub_zero, Int.pow_add]
theorem bytes_parts (n : Int) (q t : Nat) (h : q + t ≤ 8) : Cod.bytesOf (bitsV (n / 256 ^ q)) t ++ Cod.bytesOf (bitsV n) q = Cod.bytesOf (bitsV n) (q + t) := by
  induction t with
  | zero => rfl
  | succ t ih =>
    have e : bitsV (n / 256 ^ q) / 256 ^ t % 256 = bitsV n / 256 ^ (q + t) % 256 := by
      have h1 := byte_int (n / 256 ^ q) t (by omega)
      have h2 := byte_int n (q + t) (by omega)
      rw [div_div] at h1
      omega
    show bitsV (n / 256 ^ q) / 256 ^ t % 256 :: (Cod.bytesOf (bitsV (n / 256 ^ q)) t ++ Cod.bytesOf (bitsV n) q) = bitsV n / 256 ^ (q + t) % 256 :: Cod.bytesOf (bitsV n) (q + t)
    rw [e, ih (by omega)]
set_option maxHeartbeats 1600000 in
theorem codeParts_any (a : Option Addr) (n cap : Nat) (bs : List Nat) (v size low : Int) (w : World) (h : HoldsB w a n bs) (hnil : a = none → n = 0 ∧ cap = 0) (hn : n ≤ 9223372036854775807) :
    Calls Try.prog 6 #[.slice a n cap, .int .i64 v, .int .i64 size, .int .i64 low] w fun e w' => e = .returned (.bool true) ∧ Below w.heap.size w w' := by
  have H := Lib.hid h; have HN := Lib.hid hnil
  clear h hnil
  by_cases hbig : n ≤ 100
  · have hb := low_bd size 8 (by omega)
    obtain ⟨z, hz⟩ : ∃ z : Nat, 1 + lowV size 8 = (z : Int) := ⟨(1 + lowV size 8).toNat, by omega⟩
    have hz1 : 1 ≤ z := by omega
    have hz8 : z ≤ 8 := by omega
    have hb2 := low_bd low ((z : Int) + 1) (by omega)
    obtain ⟨q, hq⟩ : ∃ q : Nat, lowV low ((z : Int) + 1) = (q : Int) := ⟨(lowV low ((z : Int) + 1)).toNat, by omega⟩
    have hqz : q ≤ z := by omega
    have HZ := Lib.hid hz; have HQ := Lib.hid hq
    have hl := H.out.len
    have P1 := putV_lt bs (bitsV v) z H.out.2
    have P2 := putV_lt bs (bitsV (v / 256 ^ q)) (z - q) H.out.2
    have L1 : (bs ++ Cod.bytesOf (bitsV v) z).length = n + z := by rw [List.length_append, Cod.bytesOf_length, hl]
    have L2 : (bs ++ Cod.bytesOf (bitsV (v / 256 ^ q)) (z - q)).length = n + (z - q) := by rw [List.length_append, Cod.bytesOf_length, hl]
    have E : bs ++ Cod.bytesOf (bitsV (v / 256 ^ q)) (z - q) ++ Cod.bytesOf (bitsV v) q = bs ++ Cod.bytesOf (bitsV v) z := by
      rw [List.append_assoc, bytes_parts v q (z - q) (by omega), show q + (z - q) = z by omega]
    have T : (bs ++ Cod.bytesOf (bitsV v) z).take n = bs := by rw [← hl, List.take_left]
    have HL := Lib.hid hl; have HP1 := Lib.hid P1; have HP2 := Lib.hid P2; have HL1 := Lib.hid L1; have HL2 := Lib.hid L2; have HE := Lib.hid E; have HT := Lib.hid T
    have HS1 := Lib.hid (sizeV_of z (by omega)); have HS2 := Lib.hid (sizeV_of (z - q) (by omega)); have HS3 := Lib.hid (sizeV_of q (by omega))
    clear hz hq hb hb2 hl P1 P2 L1 L2 E T
    go_enter Try.func6, Try.ntmps6
    go_wp2_with fail
    refine (low_any _ _ (by omega) (by omega) _).mono ?_
    rintro e w' ⟨rfl, rfl⟩
    have hb := low_bd size 8 (by omega)
    go_upto_region 4 with fail
    rw [HZ.out]
    clear hb
    go_wp2_with fail
    refine (low_any _ _ (by omega) (by omega) _).mono ?_
    rintro e w' ⟨rfl, rfl⟩
    rw [HQ.out]
    go_wp2_with fail
    refine (put_any _ n _ bs v (z : Int) _ H.out HN.out (by omega)).mono ?_
    rintro e w2 ⟨a2, c2, rfl, hown2, hb2, hnil2⟩
    rw [HS1.out, HL1.out] at hown2 ⊢
    obtain ⟨g, rfl⟩ : ∃ g, a2 = some ⟨g, 0, none⟩ := by
      obtain ⟨g, cap', hv⟩ := Joins.ownsRow_form hown2 (by omega)
      simp only [Value.slice.injEq] at hv
      exact ⟨g, hv.1⟩
    have hc2 := (owns_none hown2).2
    have O2 := Lib.hid hown2; have B2 := Lib.hid hb2
    have s2 := B2.out.size
    clear hown2 hb2 hnil2
    go_wp2_with fail
    go_loop [10, 11] (fun u i => ∃ j : Nat, j ≤ q ∧ i = .int .i64 j ∧ u = .int .i64 (v / 256 ^ j)) (fun _ i => q - (intOf i).toNat)
    case atStart => exact ⟨0, by omega, rfl, by simp⟩
    case round =>
      obtain ⟨j, hj, rfl, rfl⟩ := hrel
      by_cases hlt : j < q
      · have hd := div_div v j 1
        rw [Int.pow_one] at hd
        have HD := Lib.hid hd
        clear hd
        go_wp2_with fail
        go_round
        case rel => exact ⟨j + 1, by omega, by go_num, by rw [← HD.out]⟩
        case measure => simp [intOf]; omega
      · obtain rfl : j = q := by omega
        have hsub : (z : Int) - (j : Int) = ((z - j : Nat) : Int) := by omega
        have HSUB := Lib.hid hsub
        clear hsub
        go_wp2_with fail
        rw [HSUB.out]
        refine (put_any _ n _ bs _ _ _ (H.out.below B2.out) HN.out (by omega)).mono ?_
        rintro e w3 ⟨a3, c3, rfl, hown3, hb3, hnil3⟩
        rw [HS2.out, HL2.out] at hown3 hnil3 ⊢
        have O3 := Lib.hid hown3; have B3 := Lib.hid hb3; have N3 := Lib.hid hnil3
        have s3 := B3.out.size
        clear hown3 hb3 hnil3
        go_wp2_with fail
        refine (put_any _ (n + (z - j)) _ _ v (j : Int) _ (own_holdsB O3.out HP2.out) N3.out (by omega)).mono ?_
        rintro e w4 ⟨a4, c4, rfl, hown4, hb4, hnil4⟩
        rw [HS3.out, HE.out, HL1.out] at hown4 ⊢
        have O4 := Lib.hid hown4; have B4 := Lib.hid hb4
        have s4 := B4.out.size
        have B24 := Lib.hid (B3.out.trans (B4.out.mono s3))
        have hx2 := own_holdsB (owns_below O2.out B24.out) HP1.out
        have X2 := Lib.hid hx2
        clear hown4 hb4 hnil4 hx2
        go_wp2_with fail
        refine (sameB_any _ _ _ _ _ _ _ _ _ X2.out (own_holdsB O4.out HP1.out) (by omega) (by omega)).mono ?_
        rintro e w' ⟨rfl, m, rfl⟩
        rw [decide_eq_true rfl]
        have q9 : ((n + z : Nat) : Int) = (n : Int) + z := by omega
        have hfr := X2.out.front n (by omega)
        rw [HT.out] at hfr
        have B14 := Lib.hid (B2.out.trans (B24.out.mono s2))
        have FR := Lib.hid (hfr.drewN m)
        have HB := Lib.hid ((H.out.below B14.out).drewN m)
        clear hfr
        go_wp2_with fail
        refine (sameB_any _ _ n _ n _ bs bs _ FR.out HB.out (by omega) (by omega)).mono ?_
        rintro e w' ⟨rfl, m2, rfl⟩
        rw [decide_eq_true rfl]
        go_wp2_with fail
        refine (awake_any _).mono ?_
        rintro e w' ⟨rfl, hb9⟩
        go_wp2_with fail
        go_ret
        have e1 := B14.out.trans ((below_drewN w4 (m + m2)).mono (by omega))
        exact ⟨rfl, e1.trans (hb9.mono e1.size)⟩
  · go_enter Try.func6, Try.ntmps6
    go_wp2_with fail
    refine (awake_any _).mono ?_
    rintro e w' ⟨rfl, hb3⟩
    go_wp2_with fail
    go_ret
    exact ⟨rfl, hb3⟩
open Go.ChangeShapes Go.WideShapes Go.ChangeAt in
theorem codeParts_walk {H : Type} {enc : TypeId × Value → H} (W : World) (base : Nat) (v0 v1 v2 v3 : Value) (d0 d1 d2 d3 : DataW H) (p0 p1 p2 p3 : List MemPlace)
    (h0 : DataW.Trod enc Try.prog W 0 (fun _ => true) true 22 v0 d0 p0) (h1 : DataW.Trod enc Try.prog W 0 (fun _ => true) true 3 v1 d1 p1) (h2 : DataW.Trod enc Try.prog W 0 (fun _ => true) true 3 v2 d2 p2) (h3 : DataW.Trod enc Try.prog W 0 (fun _ => true) true 3 v3 d3 p3)
    (o0 : Value.okWide Try.prog W .any base 22 v0) (o1 : Value.okWide Try.prog W .any base 3 v1) (o2 : Value.okWide Try.prog W .any base 3 v2) (o3 : Value.okWide Try.prog W .any base 3 v3) :
    Calls Try.prog 6 #[v0, v1, v2, v3] W fun e w' => e = .returned (.bool true) ∧ RowKit.Below W.heap.size W w' := by
  obtain ⟨a, n, cap, xs, rfl, hh, hnil, h3', h4⟩ := open_bytes_arg o0 h0
  obtain ⟨k, rfl, rfl, rfl, wk⟩ := open_int Try.underlying3 o1 h1
  obtain ⟨s, rfl, rfl, rfl, _⟩ := open_int Try.underlying3 o2 h2
  obtain ⟨l, rfl, rfl, rfl, _⟩ := open_int Try.underlying3 o3 h3
  exact codeParts_any a n cap xs k s l W hh hnil (by unfold maxLen at h4; omega)
end Go.Proofs.Ytkbiaebjhjdjaaa
