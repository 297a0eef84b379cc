/- the law that what was laid is read again -/
import Derived.Test.YtkbiaebjhjdjaaaCodePutsW
import Derived.Test.YtkbiaebjhjdjaaaLowV
namespace Go.Proofs.Ytkbiaebjhjdjaaa
open Go.RowKit
set_option linter.unusedVariables false
theorem strN_strB (s : ByteArray) : strN (strB s) = s := by
  apply ByteArray.ext
  apply Array.toList_inj.1
  rw [strN, strOfNums_data, strB, List.map_map, List.map_map]
  conv => rhs; rw [← List.map_id s.data.toList]
  refine List.map_congr_left fun x _ => ?_
  simp
theorem numN_at (P Q R : List Nat) : numN (P ++ Q ++ R) P.length Q.length = Cod.numOf Q := by
  unfold numN
  rw [List.append_assoc, List.drop_left, List.take_left]
theorem back_num (bs : List Nat) (v s : Nat) (c : ByteArray) (hv : v < 256 ^ s) (hc : cutS c = c) : numN (putTextV (bs ++ Cod.bytesOf v s) c) bs.length s = v := by
  unfold putTextV
  rw [hc]
  have h := numN_at bs (Cod.bytesOf v s) (Cod.bytesOf c.size 2 ++ strB c)
  rw [Cod.bytesOf_length] at h
  rw [List.append_assoc (bs ++ Cod.bytesOf v s), h, Cod.numOf_bytesOf, Nat.mod_eq_of_lt hv]
theorem back_len (bs : List Nat) (v s : Nat) (c : ByteArray) (hc6 : c.size ≤ 65535) (hc : cutS c = c) : numN (putTextV (bs ++ Cod.bytesOf v s) c) (bs.length + s) 2 = c.size := by
  unfold putTextV
  rw [hc]
  have h := numN_at (bs ++ Cod.bytesOf v s) (Cod.bytesOf c.size 2) (strB c)
  rw [Cod.bytesOf_length, List.length_append, Cod.bytesOf_length] at h
  rw [h, Cod.numOf_bytesOf, Nat.mod_eq_of_lt (by have : (256 : Nat) ^ 2 = 65536 := rfl; omega)]
theorem back_text (bs : List Nat) (v s : Nat) (c : ByteArray) (hc6 : c.size ≤ 65535) (hc : cutS c = c) : textN (putTextV (bs ++ Cod.bytesOf v s) c) (bs.length + s) = strB c := by
  unfold textN
  rw [back_len bs v s c hc6 hc]
  unfold putTextV
  rw [hc]
  have hl : (bs ++ Cod.bytesOf v s ++ Cod.bytesOf c.size 2).length = bs.length + s + 2 := by simp only [List.length_append, Cod.bytesOf_length]
  have ht : (bs ++ Cod.bytesOf v s ++ Cod.bytesOf c.size 2 ++ strB c).take (bs.length + s + 2 + c.size) = bs ++ Cod.bytesOf v s ++ Cod.bytesOf c.size 2 ++ strB c := by
    apply List.take_of_length_le; rw [List.length_append, hl, strB_length]; exact Nat.le_refl _
  rw [ht, ← hl, List.drop_left]
theorem back_size (bs : List Nat) (v s : Nat) (c : ByteArray) (hc : cutS c = c) : (putTextV (bs ++ Cod.bytesOf v s) c).length = bs.length + s + 2 + c.size := by
  unfold putTextV
  rw [hc]
  simp only [List.length_append, Cod.bytesOf_length, strB_length]
theorem pow_cast (s : Nat) : (1 : Int) * 2 ^ (8 * s) = ((256 ^ s : Nat) : Int) := by
  rw [show (256 : Nat) ^ s = 2 ^ (8 * s) by rw [Nat.pow_mul], Int.one_mul, Int.natCast_pow]; rfl
theorem pow_bd (s : Nat) (h : s ≤ 7) : 1 ≤ 256 ^ s ∧ 256 ^ s ≤ 72057594037927936 := ⟨Nat.pos_of_ne_zero (by simp), pow256 s h⟩
theorem pow_wrap (z : Nat) (h : z ≤ 7) : wrap64 ((2 : Int) ^ (8 * z)) = ((256 ^ z : Nat) : Int) := by
  have hp := pow_bd z h
  have hc := pow_cast z
  rw [Int.one_mul] at hc
  rw [hc, IntWalk.wrap64_in _ ⟨by omega, by omega⟩]
theorem text_yesI (a : Option Addr) (n cap : Nat) (bs : List Nat) (k : Nat) (kI : Int) (w : World) (h : HoldsB w a n bs) (hn : n ≤ 4611686018427387904) (hcap : n ≤ cap) (hk : k + 2 + numN bs k 2 ≤ n) (ek : kI = k) :
    Calls Try.prog 31 #[.slice a n cap, .int .i64 kI] w fun e w' => e = .returned (.tuple #[.string (strN (textN bs k)), .int .i64 ((k + 2 + numN bs k 2 : Nat) : Int), .bool true]) ∧ w = w' := by
  subst ek; exact text_yes a n cap bs k w h hn hcap hk
theorem sizeV_of (z : Nat) (h : z ≤ 8) : sizeV (z : Int) = z := by unfold sizeV; omega
set_option maxHeartbeats 1600000 in
theorem codeBack_any (a : Option Addr) (n cap : Nat) (bs : List Nat) (v size : Int) (s : ByteArray) (w : World) (h : HoldsB w a n bs) (hnil : a = none → n = 0 ∧ cap = 0) (hn : n ≤ 9223372036854775807) (hs : s.size ≤ 9223372036854775807) :
    Calls Try.prog 5 #[.slice a n cap, .int .i64 v, .int .i64 size, .string s] w fun e w' => e = .returned (.bool true) ∧ Below w.heap.size w w' := by
  have H := Lib.hid h; have HN := Lib.hid hnil
  clear h hnil
  by_cases hbig : n ≤ 200
  · have hd1 : decide ((200 : Int) < (n : Int)) = false := by rw [decide_eq_false_iff_not]; omega
    by_cases hbig2 : s.size ≤ 1000
    · have hd2 : decide ((1000 : Int) < (s.size : Int)) = false := by rw [decide_eq_false_iff_not]; omega
      have hb := low_bd size 7 (by omega)
      obtain ⟨z, hz⟩ : ∃ z : Nat, 1 + lowV size 7 = (z : Int) := ⟨(1 + lowV size 7).toNat, by omega⟩
      have hz1 : 1 ≤ z := by omega
      have hz7 : z ≤ 7 := by omega
      have hp := pow_bd z hz7
      have hb2 := low_bd v ((256 ^ z : Nat) : Int) (by omega)
      obtain ⟨u, hu⟩ : ∃ u : Nat, lowV v ((256 ^ z : Nat) : Int) = (u : Int) := ⟨(lowV v ((256 ^ z : Nat) : Int)).toNat, by omega⟩
      have hu2 : u < 256 ^ z := by omega
      have HZ := Lib.hid hz; have HU := Lib.hid hu; have HU2 := Lib.hid hu2; have HP := Lib.hid hp
      have HPC := Lib.hid (pow_cast z)
      clear hz hu hb hb2 hu2 hp
      go_enter Try.func5, Try.ntmps5
      go_wp2_with fail
      refine (low_any _ _ (by omega) (by omega) _).mono ?_
      rintro e w' ⟨rfl, rfl⟩
      have hb := low_bd size 7 (by omega)
      go_upto_region 4 with fail
      rw [HZ.out]
      clear hb
      have hpw := pow_wrap z hz7
      have HPW := Lib.hid hpw
      clear hpw
      go_wp2_with fail
      rw [HPW.out]
      have hp := HP.out
      refine (low_any _ _ (by omega) (by omega) _).mono ?_
      rintro e w' ⟨rfl, rfl⟩
      rw [HU.out]
      clear hp
      have hsv := sizeV_of z (by omega)
      have hu3 : u < 18446744073709551616 := by have := HU2.out; have := HP.out; omega
      have hbv := bitsV_nat u hu3
      have hl := H.out.len
      have P1 := putV_lt bs u z H.out.2
      have P2 := putTextV_lt (bs ++ Cod.bytesOf u z) s P1
      have hcs := cutS_small s (by omega)
      have q1 := back_num bs u z s HU2.out hcs
      have q2 := back_len bs u z s (by omega) hcs
      have q3 := back_text bs u z s (by omega) hcs
      have q4 := back_size bs u z s hcs
      have L1 : (bs ++ Cod.bytesOf u z).length = n + z := by rw [List.length_append, Cod.bytesOf_length, hl]
      obtain ⟨Y, hY⟩ : ∃ Y, putTextV (bs ++ Cod.bytesOf u z) s = Y := ⟨_, rfl⟩
      rw [hY, hl] at q1 q2 q3 q4; rw [hY] at P2
      have HSV := Lib.hid hsv; have HBV := Lib.hid hbv; have HL := Lib.hid hl; have HP1 := Lib.hid P1; have HP2 := Lib.hid P2; have Q1 := Lib.hid q1; have Q2 := Lib.hid q2; have Q3 := Lib.hid q3; have Q4 := Lib.hid q4; have HY := Lib.hid hY; have HL1 := Lib.hid L1
      clear hsv hu3 hbv hl P1 P2 hcs q1 q2 q3 q4 L1 hY
      go_wp2_with fail
      refine (put_any _ n _ bs (u : Int) (z : Int) _ H.out HN.out (by omega)).mono ?_
      rintro e w2 ⟨a2, c2, rfl, hown2, hb2, hnil2⟩
      rw [HBV.out, HSV.out, HL1.out] at hown2 hnil2 ⊢
      have O2 := Lib.hid hown2; have B2 := Lib.hid hb2; have N2 := Lib.hid hnil2
      clear hown2 hb2 hnil2
      go_wp2_with fail
      refine (putText_any _ (n + z) _ (bs ++ Cod.bytesOf u z) s _ (own_holdsB O2.out HP1.out) N2.out (by omega) (by omega)).mono ?_
      rintro e w3 ⟨a3, c3, rfl, hown3, hb3, hnil3⟩
      rw [HY.out, Q4.out] at hown3 hnil3 ⊢
      have H3 := Lib.hid (own_holdsB hown3 HP2.out)
      have B3 := Lib.hid (B2.out.trans (hb3.mono B2.out.size))
      have hc3 := (owns_none hown3).2
      clear hown3 hb3 hnil3
      go_wp2_with fail
      refine (num_yes _ _ _ Y n z _ H3.out (by omega) hz1 (by omega) (by omega)).mono ?_
      rintro e w' ⟨rfl, rfl⟩
      rw [Q1.out, IntWalk.wrap64_in (u : Int) ⟨by omega, by have := HU2.out; have := HP.out; omega⟩]
      go_wp2_with fail
      refine (text_yesI _ _ _ Y (n + z) _ _ H3.out (by omega) hc3 (by rw [Q2.out]; exact Nat.le_refl _) (by omega)).mono ?_
      rintro e w' ⟨rfl, rfl⟩
      rw [Q2.out, Q3.out, strN_strB]
      have q9 : ((n + z + 2 + s.size : Nat) : Int) = (n : Int) + z + 2 + s.size := by omega
      go_wp2_with fail
      refine (awake_any _).mono ?_
      rintro e w' ⟨rfl, hb3⟩
      go_wp2_with fail
      go_ret
      exact ⟨rfl, B3.out.trans (hb3.mono B3.out.size)⟩
    · go_enter Try.func5, Try.ntmps5
      go_wp2_with fail
      refine (awake_any _).mono ?_
      rintro e w' ⟨rfl, hb3⟩
      go_wp2_with fail
      go_ret
      exact ⟨rfl, hb3⟩
  · go_enter Try.func5, Try.ntmps5
    go_wp2_with fail
    refine (awake_any _).mono ?_
    rintro e w' ⟨rfl, hb3⟩
    go_wp2_with fail
    go_ret
    exact ⟨rfl, hb3⟩
open Go.ChangeShapes Go.WideShapes Go.ChangeAt in
open Go.ChangeMaps (open_string) in
theorem codeBack_walk {H : Type} {enc : TypeId × Value → H} (W : World) (base : Nat) (v0 v1 v2 v3 : Value) (d0 d1 d2 d3 : DataW H) (p0 p1 p2 p3 : List MemPlace)
    (h0 : DataW.Trod enc Try.prog W 0 (fun _ => true) true 22 v0 d0 p0) (h1 : DataW.Trod enc Try.prog W 0 (fun _ => true) true 3 v1 d1 p1) (h2 : DataW.Trod enc Try.prog W 0 (fun _ => true) true 3 v2 d2 p2) (h3 : DataW.Trod enc Try.prog W 0 (fun _ => true) true 9 v3 d3 p3)
    (o0 : Value.okWide Try.prog W .any base 22 v0) (o1 : Value.okWide Try.prog W .any base 3 v1) (o2 : Value.okWide Try.prog W .any base 3 v2) (o3 : Value.okWide Try.prog W .any base 9 v3) :
    Calls Try.prog 5 #[v0, v1, v2, v3] W fun e w' => e = .returned (.bool true) ∧ RowKit.Below W.heap.size W w' := by
  obtain ⟨a, n, cap, xs, rfl, hh, hnil, h3', h4⟩ := open_bytes_arg o0 h0
  obtain ⟨k, rfl, rfl, rfl, wk⟩ := open_int Try.underlying3 o1 h1
  obtain ⟨s, rfl, rfl, rfl, _⟩ := open_int Try.underlying3 o2 h2
  obtain ⟨t, rfl, rfl, rfl, ws⟩ := open_string Try.underlying9 o3 h3
  exact codeBack_any a n cap xs k s t W hh hnil (by unfold maxLen at h4; omega) (by unfold maxLen at ws; omega)
end Go.Proofs.Ytkbiaebjhjdjaaa
