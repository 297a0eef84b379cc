/- contracts of the document's Compare, of text.Prefix -/
import Derived.Test.YtlkckdhenodhgaaTp1
namespace Go.Proofs.Ytlkckdhenodhgaa
open Go.RowKit
set_option linter.unusedVariables false
set_option maxHeartbeats 1600000 in
theorem rcompare_any (a b : ByteArray) (w : World) (hsa : a.size ≤ 1048576) (hsb : b.size ≤ 1048576) :
    Calls Try.prog 28 #[.string a, .string b] w fun e w' => e = .returned (.int .i64 (cmpS a b)) ∧ Below w.heap.size w w' := by
  go_enter Try.func28, Try.ntmps28
  go_wp2_with fail
  go_loopw [5] (fun iv wr => ∃ j : Nat, j ≤ a.size ∧ j ≤ b.size ∧ iv = .int .i64 j ∧ Hid (cmpS a b = cmpL (a.toList.drop j) (b.toList.drop j)) ∧ Hid (Below w.heap.size w wr)) (fun iv _ => a.size - (intOf iv).toNat)
  case atStart => exact ⟨0, by omega, by omega, rfl, Lib.hid rfl, Lib.hid (Below.refl _ _)⟩
  case round =>
    obtain ⟨j, hja, hjb, rfl, hC, hB⟩ := hrel
    by_cases hla : j < a.size
    · by_cases hlb : j < b.size
      · obtain ⟨c, hc1, hc2⟩ := drop_at a j hla
        obtain ⟨d, hd1, hd2⟩ := drop_at b j hlb
        have hx := byteS_at a j hla
        have hy := byteS_at b j hlb
        have hcd := cmpL_cons c d (a.toList.drop (j + 1)) (b.toList.drop (j + 1))
        rw [← hc1, ← hd1, hc2, hd2, ← hC.out] at hcd
        have bx := byteS_lt a j; have by' := byteS_lt b j
        obtain ⟨x, hx2⟩ : ∃ x, byteS a j = x := ⟨_, rfl⟩
        obtain ⟨y, hy2⟩ : ∃ y, byteS b j = y := ⟨_, rfl⟩
        rw [hx2] at hx hcd bx; rw [hy2] at hy hcd by'
        have HCD := Lib.hid hcd
        have g1 : (j : Int) < (a.size : Int) := by omega
        have g2 : (j : Int) < (b.size : Int) := by omega
        have g3 : (0 : Int) ≤ (j : Int) := by omega
        have HB1 := Lib.hid (fun nn => hB.out.trans ((below_drewN wr nn).mono hB.out.size))
        clear hc1 hc2 hd1 hd2 hx2 hy2 hcd hC hB
        rcases Nat.lt_trichotomy x y with h | h | h
        · have x1 : decide ((x : Int) < (y : Int)) = true := by simp; omega
          have hv := HCD.out
          rw [if_pos h] at hv
          have HV := Lib.hid hv
          clear hv
          go_upto_region 4 with fail
          go_quiet (fail)
          go_wp2_with fail
          go_ret
          exact ⟨ret_int HV.out.symm, HB1.out _⟩
        · subst h
          have hv := HCD.out
          rw [if_neg (Nat.lt_irrefl _), if_neg (Nat.lt_irrefl _)] at hv
          have HV := Lib.hid hv
          have x1 : decide ((x : Int) < (x : Int)) = false := by simp
          have x2 : decide ((x : Int) > (x : Int)) = false := by simp
          clear hv
          go_upto_region 4 with fail
          go_quiet (fail)
          go_upto_region 6 with fail
          go_quiet (fail)
          go_wp2_with fail
          go_roundw
          case rel => exact ⟨j + 1, by omega, by omega, by go_num, HV, Lib.hid (HB1.out _)⟩
          case measure => simp [intOf]; omega
        · have x1 : decide ((x : Int) < (y : Int)) = false := by simp; omega
          have x2 : decide ((x : Int) > (y : Int)) = true := by simp; omega
          have hv := HCD.out
          rw [if_neg (by omega), if_pos h] at hv
          have HV := Lib.hid hv
          clear hv
          go_upto_region 4 with fail
          go_quiet (fail)
          go_upto_region 6 with fail
          go_quiet (fail)
          go_wp2_with fail
          go_ret
          exact ⟨ret_int HV.out.symm, (HB1.out _).trans ((below_drewN _ _).mono (HB1.out _).size)⟩
      · have h1 := drop_end b j (by omega)
        obtain ⟨c, hc1, _⟩ := drop_at a j hla
        have hv := hC.out
        rw [h1, hc1] at hv
        have HV := Lib.hid (hv.trans (show cmpL (c :: a.toList.drop (j + 1)) [] = 1 by simp [cmpL, Op.bytesLess]))
        clear h1 hc1 hv hC
        go_wp2_with fail
        go_ret
        exact ⟨ret_int HV.out.symm, hB.out⟩
    · have h1 := drop_end a j (by omega)
      by_cases hlb : j < b.size
      · obtain ⟨c, hc1, _⟩ := drop_at b j hlb
        have hv := hC.out
        rw [h1, hc1] at hv
        have HV := Lib.hid (hv.trans (show cmpL [] (c :: b.toList.drop (j + 1)) = -1 by simp [cmpL, Op.bytesLess]))
        clear h1 hc1 hv hC
        go_wp2_with fail
        go_ret
        exact ⟨ret_int HV.out.symm, hB.out⟩
      · have h2 := drop_end b j (by omega)
        have hv := hC.out
        rw [h1, h2] at hv
        have HV := Lib.hid (hv.trans (show cmpL [] [] = 0 from rfl))
        clear h1 h2 hv hC
        go_wp2_with fail
        go_ret
        exact ⟨ret_int HV.out.symm, hB.out⟩
/-- where so many runes end -/
def posN (s : ByteArray) : Nat → Nat
  | 0 => 0
  | n + 1 => if posN s n < s.size then posN s n + (Utf8.decode s (posN s n)).2 else posN s n
theorem posN_step (s : ByteArray) (n : Nat) (h : posN s n < s.size) : posN s (n + 1) = posN s n + (Utf8.decode s (posN s n)).2 := by rw [posN, if_pos h]
theorem posN_stay (s : ByteArray) (n m : Nat) (h : s.size ≤ posN s n) : posN s (n + m) = posN s n := by
  induction m with
  | zero => rfl
  | succ m ih => rw [← Nat.add_assoc, posN, if_neg (by omega)]; exact ih
def prefixS (s : ByteArray) (n : Int) : ByteArray := if n < 1 ∨ lenS s < 0 then { data := #[] } else s.extract 0 (posN s n.toNat)
theorem extract_all (s : ByteArray) (p : Nat) (h : s.size ≤ p) : s.extract 0 p = s := by
  apply ByteArray.ext
  simp only [ByteArray.data_extract]
  rw [Array.extract_eq_self_of_le]
  exact h
set_option maxHeartbeats 1600000 in
theorem prefix_any (s : ByteArray) (n : Int) (w : World) (hs : s.size ≤ 1048576) :
    Calls Try.prog 20 #[.string s, .int .i64 n] w fun e w' => e = .returned (.string (prefixS s n)) ∧ Below w.heap.size w w' := by
  by_cases hn1 : n < 1
  · unfold prefixS
    rw [if_pos (Or.inl hn1)]
    go_enter Try.func20, Try.ntmps20
    go_wp2_with fail
    go_ret
    exact ⟨rfl, Below.refl _ _⟩
  have hL := Lib.hid (len_any s w (by omega))
  by_cases hg : lenS s < 0
  · unfold prefixS
    rw [if_pos (Or.inr hg)]
    obtain ⟨l, hl⟩ : ∃ l, lenS s = l := ⟨_, rfl⟩
    rw [hl] at hL hg
    clear hl
    go_enter Try.func20, Try.ntmps20
    go_wp2_with fail
    refine hL.out.mono ?_
    rintro e w' ⟨rfl, hb⟩
    go_wp2_with fail
    go_ret
    exact ⟨rfl, hb⟩
  unfold prefixS
  rw [if_neg (by omega)]
  obtain ⟨m, rfl⟩ : ∃ m : Nat, n = (m : Int) := ⟨n.toNat, by omega⟩
  rw [Int.toNat_natCast]
  have hm : 1 ≤ m := by omega
  obtain ⟨l, hl⟩ : ∃ l, lenS s = l := ⟨_, rfl⟩
  rw [hl] at hL hg
  clear hl
  go_enter Try.func20, Try.ntmps20
  go_wp2_with fail
  refine hL.out.mono ?_
  rintro e w1 ⟨rfl, hb⟩
  have B1 := Lib.hid hb
  clear hb
  go_wp2_with fail
  go_loopw [5] (fun cv wr => ∃ (k pos f : Nat), s.size ≤ pos + f ∧ k ≤ m ∧ k + f ≤ s.size ∧ cv = .int .i64 k ∧ Hid (pos = posN s k) ∧ wr = w1.iter s pos) (fun _ wr => s.size - wr.iterPos w1.heap.size)
  case atStart => exact ⟨0, 0, s.size, by omega, by omega, by omega, rfl, Lib.hid rfl, rfl⟩
  case round =>
    obtain ⟨k, pos, f, hf, hkm, hkf, rfl, hpos, rfl⟩ := hrel
    by_cases hlt : pos < s.size
    · have hnx := fun ty => run_next_any (P := Try.prog) w1 s pos ty hlt
      have hwd := decode_width s pos hlt
      have hp1 := posN_step s k (by rw [← hpos.out]; exact hlt)
      rw [← hpos.out] at hp1
      obtain ⟨r, hr⟩ : ∃ r, (Utf8.decode s pos).1 = r := ⟨_, rfl⟩
      obtain ⟨wd, hwd2⟩ : ∃ wd, (Utf8.decode s pos).2 = wd := ⟨_, rfl⟩
      rw [hr, hwd2] at hnx; rw [hwd2] at hwd hp1
      have HP1 := Lib.hid hp1
      clear hr hwd2 hp1
      by_cases hk : k = m
      · subst hk
        have x1 : ((k : Int) == (k : Int)) = true := by simp
        have hps : (pos : Int) ≤ (s.size : Int) := by omega
        go_wp2_with fail
        go_ret
        exact ⟨by rw [← hpos.out]; rfl, B1.out.trans ((below_one w1 _).mono B1.out.size)⟩
      · have x1 : ((k : Int) == (m : Int)) = false := by simp; omega
        go_wp2_with fail
        go_roundw
        case rel => exact ⟨k + 1, pos + wd, f - 1, by omega, by omega, by omega, by go_num, Lib.hid HP1.out.symm, rfl⟩
        case measure => simp; omega
    · have hnx := fun ty => run_next_end (P := Try.prog) w1 s pos ty hlt
      have he : posN s m = pos := by
        have h1 := posN_stay s k (m - k) (by rw [← hpos.out]; omega)
        rw [show k + (m - k) = m by omega] at h1
        rw [h1]; exact hpos.out.symm
      have HE := Lib.hid he
      clear he
      go_wp2_with fail
      go_ret
      exact ⟨by rw [HE.out, extract_all s pos (by omega)]; rfl, B1.out.trans ((below_one w1 _).mono B1.out.size)⟩
end Go.Proofs.Ytlkckdhenodhgaa
