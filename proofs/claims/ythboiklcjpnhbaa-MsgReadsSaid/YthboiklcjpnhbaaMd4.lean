/- messages in the document: replied (by gen/md4.py) -/
import Derived.Test.YthboiklcjpnhbaaMd3
namespace Go.Proofs.Ythboiklcjpnhbaa
open Go.RowKit
set_option linter.unusedVariables false
set_option maxRecDepth 20000
set_option maxHeartbeats 12800000 in
set_option maxRecDepth 100000 in
theorem dReplied (y : RepP) (o : List Nat) (m : Nat) (w : World) (hh : HoldsK w y.ia y.n y.items) (hs : ∀ k ∈ y.items, k.2.size ≤ 1100) (hn : y.n ≤ 8) (ho : repB y = o) (hm : o.length = m) :
    Calls Try.prog 68 #[agReply y] w (RBB w w o m) := by
  obtain ⟨y0, y1, y2, y3, y4, y5, ia, n, ic, ks, yf⟩ := y
  simp only at hh hs hn
  have hlen : ks.length = n := hh.len
  have CF := Lib.hid (fun w1 => dfours _ 6 6 [y0, y1, y2, y3, y4, y5] 24 _ (holdsI_lit w1 [y0, y1, y2, y3, y4, y5] 3 (0, 0)) (by omega) (by omega))
  obtain ⟨o1, ho1⟩ : ∃ o1, nsB [y0, y1, y2, y3, y4, y5] = o1 := ⟨_, rfl⟩
  have o1l : o1.length = 24 := by rw [← ho1, nsB_len]; rfl
  rw [ho1] at CF
  obtain ⟨o2, ho2⟩ : ∃ o2, o1 ++ n1 (n : Int) = o2 := ⟨_, rfl⟩
  have o2l : o2.length = 25 := by rw [← ho2, List.length_append, n1_len, o1l]
  have hO : (o2 ++ itsB ks) ++ fB yf = o := by rw [← ho, ← ho2, ← ho1, ← hlen]; rfl
  have K2 := Lib.hid (fun a c w1 (h : BB w o1 a c w1) => dput (n : Int) 1 1 rfl (by omega) o2 25 h o1l (by omega) ho2 rfl)
  have HO := Lib.hid hO; have HM := Lib.hid hm; have O2L := Lib.hid o2l
  obtain ⟨w3, hw3⟩ : ∃ w3, w.alloc (.cells #[.int .i64 y0, .int .i64 y1, .int .i64 y2, .int .i64 y3, .int .i64 y4, .int .i64 y5, .slice ia n ic, .bool yf] 32) = w3 := ⟨_, rfl⟩
  have BX := Lib.hid (show Below w.heap.size w w3 from hw3 ▸ below_one w _)
  have XI := Lib.hid (show ReplyIn w3 w.heap.size ⟨y0, y1, y2, y3, y4, y5, ia, n, ic, ks, yf⟩ from hw3 ▸ ReplyIn_new _ ⟨y0, y1, y2, y3, y4, y5, ia, n, ic, ks, yf⟩ _ _ (0, 0) rfl)
  have HH := Lib.hid hh; have HS := Lib.hid hs; have HL := Lib.hid hlen
  clear ho hm ho1 ho2 hO hh hs hlen o1l o2l
  go_enter Try.func68, Try.ntmps68
  go_upto_region 1 with fail
  try rw [hw3]
  clear hw3
  obtain ⟨p, hp⟩ : ∃ p, w.heap.size = p := ⟨_, rfl⟩
  rw [hp] at XI
  try simp only [hp]
  clear hp
  have hX := XI.out
  unfold ReplyIn at hX
  obtain ⟨x0, x1, x2, x3, x4, x5, x6, x7⟩ := hX
  simp only at x0 x1 x2 x3 x4 x5 x6 x7
  go_wp2_with fail
  have hb4 := below_one w3 (.cells #[.int .i64 y0, .int .i64 y1, .int .i64 y2, .int .i64 y3, .int .i64 y4, .int .i64 y5] 3)
  have CF' := Lib.hid (CF.out w3)
  refine CF'.out.mono ?_
  rintro e w4 ⟨a1, c1, rfl, hl1, hB1, hb⟩
  have hb5 := hb4.trans (hb.mono hb4.size)
  have X4 := Lib.hid (XI.out.below hb5)
  have E2 := Lib.hid (K2.out a1 c1 w4 (hB1.rebase (BX.out.trans (hb4.mono BX.out.size))))
  clear x0 x1 x2 x3 x4 x5 x6 x7 hb4 CF CF' hB1 hb hb5 hl1 K2
  have hX := X4.out
  unfold ReplyIn at hX
  obtain ⟨x0, x1, x2, x3, x4, x5, x6, x7⟩ := hX
  simp only at x0 x1 x2 x3 x4 x5 x6 x7
  go_wp2_with fail
  with_reducible refine E2.out.mono ?_
  rintro e w5 ⟨a2, c2, rfl, hl2, hB2, hb⟩
  have X5 := Lib.hid (X4.out.below hb)
  have D2 := Lib.hid hB2
  clear x0 x1 x2 x3 x4 x5 x6 x7 hB2 hb E2 hl2
  go_wp2_with fail
  go_loopw [3, 4] (fun bv iv wr => ∃ (j k : Nat) (bs : List Nat) (ba : Option Addr) (bc : Nat), j ≤ n ∧ bv = .slice ba k bc ∧ iv = .int .i64 (j : Int) ∧ k ≤ 25 + 1103 * j ∧ Hid (bs.length = k) ∧ Hid (bs = o2 ++ itsB (ks.take j)) ∧ Hid (BB w bs ba bc wr) ∧ Hid (Below w5.heap.size w5 wr)) (fun _ iv _ => n - (intOf iv).toNat)
  case atStart => exact ⟨0, 25, o2, a2, c2, by omega, rfl, rfl, by omega, O2L, Lib.hid (by simp [itsB]), D2, Lib.hid (Below.refl _ _)⟩
  case round =>
    obtain ⟨j, k, bs, ba, bc, hj, rfl, rfl, hk4, hk, hbs, hB, hW⟩ := hrel
    rename World => wr
    have x6 := cellD (show w5.cell? ⟨p, 6, none⟩ = some (.slice ia n ic) from X5.out.2.2.2.2.2.2.1) hW.out
    have x7 := cellD (show w5.cell? ⟨p, 7, none⟩ = some (.bool yf) from X5.out.2.2.2.2.2.2.2) hW.out
    by_cases hlt : j < n
    · obtain ⟨qb, qo, rfl, hcc⟩ := (HH.out.below hB.out.b).at (by omega)
      obtain ⟨y0', y1'⟩ := hcc j hlt
      obtain ⟨kk, hkk⟩ : ∃ k, ks.getD j k0 = k := ⟨_, rfl⟩
      have hks := HS.out kk (by rw [← hkk]; exact getD_memK ks j (by rw [HL.out]; exact hlt))
      have hsn := itsB_snoc ks j (by rw [HL.out]; exact hlt)
      rw [hkk] at y0' y1' hsn
      obtain ⟨k1, k2⟩ := kk
      simp only at y0' y1' hks
      obtain ⟨ob, hob⟩ : ∃ ob, bs ++ n1 k1 = ob := ⟨_, rfl⟩
      have obl : ob.length = k + 1 := by rw [← hob, List.length_append, n1_len, hk.out]
      obtain ⟨oc, hoc⟩ : ∃ oc, ob ++ tB k2 = oc := ⟨_, rfl⟩
      have HOC := Lib.hid (show oc = o2 ++ itsB (ks.take (j + 1)) from by rw [← hoc, ← hob, hsn, hbs.out]; unfold itB; simp only [List.append_assoc])
      obtain ⟨k', hk'⟩ : ∃ k', k + 1 = k' := ⟨_, rfl⟩
      obtain ⟨k'', hk''⟩ : ∃ k'', k' + (2 + k2.size) = k'' := ⟨_, rfl⟩
      rw [hk'] at obl
      have KB := Lib.hid (show k'' ≤ 25 + 1103 * (j + 1) from by omega)
      have E1 := Lib.hid (fun w1 (h : Below wr.heap.size wr w1) => dput k1 1 1 rfl (by omega) ob k' (hB.out.more h) hk.out (by omega) hob hk')
      have E2 := Lib.hid (fun a c w1 (h : BB w ob a c w1) => dtext k2 oc k'' h obl (by omega) hks hoc hk'')
      have n1' : (0 : Int) ≤ (j : Int) := by omega
      have n2' : (j : Int) < (n : Int) := by omega
      have TD := Lib.hid (show Below wr.heap.size wr wr.drew ∧ wr.drew.cell? ⟨p, 6, none⟩ = some (.slice (some ⟨qb, qo, none⟩) n ic) ∧ wr.drew.cell? ⟨qb, qo + j * 2, none⟩ = some (.int .i64 k1) ∧ wr.drew.cell? ⟨qb, qo + j * 2 + 1, none⟩ = some (.string k2) from ⟨(Below.refl _ _).drew, x6, y0', y1'⟩)
      clear hcc hkk hsn hob obl hoc hk' hk'' hk4
      go_upto_region 6 with fail
      clear x6 x7 y0' y1'
      go_region_held3 (fun w' => Below wr.heap.size wr w' ∧ w'.cell? ⟨p, 6, none⟩ = some (.slice (some ⟨qb, qo, none⟩) n ic) ∧ w'.cell? ⟨qb, qo + j * 2, none⟩ = some (.int .i64 k1) ∧ w'.cell? ⟨qb, qo + j * 2 + 1, none⟩ = some (.string k2))
        (first | assumption | exact TD.out | exact mr_carry1 (by assumption) (by assumption))
        (first
          | (go_at_call 37; (with_reducible refine (E1.out _ (And.left (by assumption))).mono ?_); rintro e w' ⟨a6, c6, rfl, hl6, hB6, hb6⟩)
          | (go_at_call 89; (with_reducible refine (E2.out _ _ _ (by assumption)).mono ?_); rintro e w' ⟨a7, c7, rfl, hl7, hB7, hb7⟩)
          | fail)
      all_goals
        have hS : Below wr.heap.size wr w' ∧ w'.cell? ⟨p, 6, none⟩ = some (.slice (some ⟨qb, qo, none⟩) n ic) ∧ w'.cell? ⟨qb, qo + j * 2, none⟩ = some (.int .i64 k1) ∧ w'.cell? ⟨qb, qo + j * 2 + 1, none⟩ = some (.string k2) := by assumption
        have B7 := Lib.hid hB7; have L7 := Lib.hid hl7
        have W7 := Lib.hid (hW.out.trans (hS.1.mono hW.out.size))
        clear hS hB6 hb6 hB7 hb7 hl6 hl7 E1 E2 TD
        go_wp2_with fail
        go_roundw
        case rel => exact ⟨j + 1, k'', oc, a7, c7, by omega, rfl, by go_num, KB.out, L7, HOC, B7, W7⟩
        case measure => simp [intOf] <;> omega
    · obtain rfl : j = n := by omega
      have HT : ks.take j = ks := by rw [← HL.out]; exact List.take_length
      have CF := Lib.hid (dflag yf o m hB.out hk.out (by omega) (by rw [hbs.out, HT]; exact HO.out) (by rw [← HM.out, ← HO.out, List.length_append, fB_len, ← hk.out, hbs.out, HT]))
      clear HT
      go_wp2_with fail
      with_reducible refine CF.out.mono ?_
      rintro e w6 ⟨a6, c6, rfl, hl6, hB6, hb6⟩
      have FF := Lib.hid (show RBB w w o m (.returned (.slice a6 m c6)) w6 from ⟨a6, c6, rfl, hl6, hB6, hB6.b⟩)
      clear hl6 hB6 hb6
      go_wp2_with fail
      go_ret
      exact FF.out
end Go.Proofs.Ythboiklcjpnhbaa
