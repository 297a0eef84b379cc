/- messages in the document: fields (by gen/md3.py) -/
import Derived.Test.YthboiklcjpnhbaaMd2
import Derived.Test.YthboiklcjpnhbaaPsl
import Derived.Test.YthboiklcjpnhbaaCd4
import Derived.Test.YthboiklcjpnhbaaMa6
namespace Go.Proofs.Ythboiklcjpnhbaa
open Go.RowKit
set_option linter.unusedVariables false
set_option maxRecDepth 20000
theorem dput (v : Int) (s : Nat) (si : Int) (hsi : si = (s : Int)) (hs : s ≤ 8) (o : List Nat) (m : Nat) {w0 w : World} {bs : List Nat} {n : Nat} {a : Option Addr} {c : Nat} (h : BB w0 bs a c w) (hn : bs.length = n) (hl : n ≤ 524288) (ho : bs ++ Cod.bytesOf (bitsV v) s = o) (hm : n + s = m) :
    Calls Try.prog 37 #[.slice a n c, .int .i64 v, .int .i64 si] w (RBB w0 w o m) := by
  subst ho hsi hn hm
  refine (rput_any a bs.length c bs v (s : Int) w h.h h.n hl).mono ?_
  rintro e w' hr
  have e1 : sizeV (s : Int) = s := by unfold sizeV; omega
  rw [e1] at hr
  exact BB.of_ret h.b hr (fun x hx => by
    rcases List.mem_append.1 hx with hx | hx
    · exact h.lt x hx
    · exact Cod.bytesOf_lt _ _ x hx) (by rw [List.length_append, Cod.bytesOf_length])
theorem dtext (s : Tx) (o : List Nat) (m : Nat) {w0 w : World} {bs : List Nat} {n : Nat} {a : Option Addr} {c : Nat} (h : BB w0 bs a c w) (hn : bs.length = n) (hl : n ≤ 262144) (hs : s.size ≤ 1100) (ho : bs ++ tB s = o) (hm : n + (2 + s.size) = m) :
    Calls Try.prog 89 #[.slice a n c, .string s] w (RBB w0 w o m) := by
  subst ho hn hm
  refine (rputText_any a bs.length c bs s w h.h h.n hl (by omega)).mono ?_
  rintro e w' hr
  have e1 : putTextV bs s = bs ++ tB s := by unfold putTextV tB; rw [List.append_assoc]
  rw [e1] at hr
  exact BB.of_ret h.b hr (fun x hx => by
    rcases List.mem_append.1 hx with hx | hx
    · exact h.lt x hx
    · exact tB_lt s x hx) (by rw [List.length_append, tB_len s (by omega)])
set_option maxHeartbeats 1600000 in
theorem dfours (za : Option Addr) (n zc : Nat) (zs : List Int) (m : Nat) (w : World) (h : HoldsI .i64 w za n zs) (hn : n ≤ 8) (hm : 4 * n = m) :
    Calls Try.prog 66 #[.slice .none 0 0, .slice za n zc] w (RBB w w (nsB zs) m) := by
  have HH := Lib.hid h
  have HL := Lib.hid h.1
  have HM := Lib.hid hm
  clear h hm
  go_enter Try.func66, Try.ntmps66
  go_wp2_with fail
  go_loopw [0, 5] (fun bv iv wr => ∃ (j k : Nat) (bs : List Nat) (ba : Option Addr) (bc : Nat), j ≤ n ∧ bv = .slice ba k bc ∧ iv = .int .i64 (j : Int) ∧ Hid (k = 4 * j) ∧ Hid (bs.length = k) ∧ Hid (bs = nsB (zs.take j)) ∧ Hid (BB w bs ba bc wr)) (fun _ iv _ => n - (intOf iv).toNat)
  case atStart => exact ⟨0, 0, [], none, 0, by omega, rfl, rfl, Lib.hid rfl, Lib.hid rfl, Lib.hid (by simp [nsB]), Lib.hid ⟨holdsB_nil _ _, fun _ => ⟨rfl, rfl⟩, Below.refl _ _⟩⟩
  case round =>
    obtain ⟨j, k, bs, ba, bc, hj, rfl, rfl, hk4, hk, hbs, hB⟩ := hrel
    rename World => wr
    by_cases hlt : j < n
    · obtain ⟨qb, qo, rfl, hcc⟩ := (HH.out.below hB.out.b).at (by omega)
      have x0 := hcc j hlt
      obtain ⟨z, hz⟩ : ∃ z, zs.getD j 0 = z := ⟨_, rfl⟩
      rw [hz] at x0
      have HS := Lib.hid (show nsB (zs.take (j + 1)) = bs ++ n4 z from by rw [hbs.out, nsB_snoc zs j (by rw [HL.out]; exact hlt), hz])
      have CP := Lib.hid (dput z 4 4 rfl (by omega) (bs ++ n4 z) (k + 4) hB.out hk.out (by have := hk4.out; omega) rfl rfl)
      have n1' : (0 : Int) ≤ (j : Int) := by omega
      have n2' : (j : Int) < (n : Int) := by omega
      obtain ⟨kk, hkk⟩ : ∃ kk, k + 4 = kk := ⟨_, rfl⟩
      have k4 := Lib.hid (show kk = 4 * (j + 1) from by have := hk4.out; omega)
      rw [hkk] at CP
      clear hcc hz hkk
      go_wp2_with fail
      with_reducible refine CP.out.mono ?_
      rintro e w' ⟨a2, c2, rfl, hl2, hB2, -⟩
      have B2 := Lib.hid hB2; have L2 := Lib.hid hl2
      clear hB2 hl2 CP x0
      go_wp2_with fail
      go_roundw
      case rel => exact ⟨j + 1, kk, bs ++ n4 z, a2, c2, by omega, rfl, by go_num, k4, L2, Lib.hid HS.out.symm, B2⟩
      case measure => simp [intOf] <;> omega
    · obtain rfl : j = n := by omega
      have HT : zs.take j = zs := by rw [← HL.out]; exact List.take_length
      have FF := Lib.hid (show RBB w w (nsB zs) m (.returned (.slice ba k bc)) wr from ⟨ba, bc, by rw [← HM.out, ← hk4.out], by rw [← HT, ← hbs.out, hk.out, hk4.out, HM.out], by rw [← HT, ← hbs.out]; exact hB.out, hB.out.b⟩)
      clear HT hbs hB hk
      go_wp2_with fail
      go_ret
      exact FF.out
theorem dflag (f : Bool) (o : List Nat) (m : Nat) {w0 w : World} {bs : List Nat} {n : Nat} {a : Option Addr} {c : Nat} (h : BB w0 bs a c w) (hn : bs.length = n) (hl : n ≤ 524288) (ho : bs ++ fB f = o) (hm : n + 1 = m) :
    Calls Try.prog 90 #[.slice a n c, .bool f] w (RBB w0 w o m) := by
  have CP := Lib.hid (dput (if f then 1 else 0) 1 1 rfl (by omega) o m h hn hl ho hm)
  clear h hn ho hm
  cases f
  · simp only [Bool.false_eq_true, if_false] at CP
    go_enter Try.func90, Try.ntmps90
    go_wp2_with fail
    with_reducible refine CP.out.mono ?_
    rintro e w' ⟨a2, c2, rfl, hl2, hB2, hW2⟩
    have B2 := Lib.hid hB2; have L2 := Lib.hid hl2; have W2 := Lib.hid hW2
    clear hB2 hl2 CP hW2
    go_wp2_with fail
    go_ret
    exact ⟨a2, c2, rfl, L2.out, B2.out, W2.out⟩
  · simp only [if_true] at CP
    go_enter Try.func90, Try.ntmps90
    go_wp2_with fail
    with_reducible refine CP.out.mono ?_
    rintro e w' ⟨a2, c2, rfl, hl2, hB2, hW2⟩
    have B2 := Lib.hid hB2; have L2 := Lib.hid hl2; have W2 := Lib.hid hW2
    clear hB2 hl2 CP hW2
    go_wp2_with fail
    go_ret
    exact ⟨a2, c2, rfl, L2.out, B2.out, W2.out⟩
theorem as_carry {w0 w w' : World} {p i j : Nat} {u v : Value} (h : Below w0.heap.size w0 w ∧ w.cell? ⟨p, i, none⟩ = some u ∧ w.cell? ⟨p, j, none⟩ = some v) (hb : Below w.heap.size w w') : Below w0.heap.size w0 w' ∧ w'.cell? ⟨p, i, none⟩ = some u ∧ w'.cell? ⟨p, j, none⟩ = some v := ⟨h.1.trans (hb.mono h.1.size), cellD h.2.1 hb, cellD h.2.2 hb⟩
set_option maxHeartbeats 12800000 in
set_option maxRecDepth 100000 in
theorem dAsked (x : AskP) (o : List Nat) (m : Nat) (w : World) (ht : x.text.size ≤ 1100) (ha : x.aw.size ≤ 1100) (ho : askB x = o) (hm : o.length = m) :
    Calls Try.prog 67 #[agAsk x] w (RBB w w o m) := by
  have hM : m = 20 + (2 + x.text.size) + 1 + 1 + 1 + 1 + (2 + x.aw.size) := by
    rw [← hm, ← ho]; unfold askB
    simp only [List.length_append, nsB_len, n1_len, fB_len, tB_len x.text (by omega), itB_len (x.ad, x.aw) (by simp only; omega), List.length_cons, List.length_nil]
    omega
  have CF := Lib.hid (fun w1 => dfours _ 5 5 [x.slot, x.query, x.shard, x.seq, x.epoch] 20 _ (holdsI_lit w1 [x.slot, x.query, x.shard, x.seq, x.epoch] 3 (0, 0)) (by omega) (by omega))
  obtain ⟨o1, ho1⟩ : ∃ o1, nsB [x.slot, x.query, x.shard, x.seq, x.epoch] = o1 := ⟨_, rfl⟩
  rw [ho1] at CF
  obtain ⟨m2, hm2⟩ : ∃ m2, 20 + (2 + x.text.size) = m2 := ⟨_, rfl⟩
  obtain ⟨m3, hm3⟩ : ∃ m3, m2 + 1 = m3 := ⟨_, rfl⟩
  obtain ⟨m4, hm4⟩ : ∃ m4, m3 + 1 = m4 := ⟨_, rfl⟩
  obtain ⟨m5, hm5⟩ : ∃ m5, m4 + 1 = m5 := ⟨_, rfl⟩
  obtain ⟨m6, hm6⟩ : ∃ m6, m5 + 1 = m6 := ⟨_, rfl⟩
  obtain ⟨o2, ho2⟩ : ∃ o2, o1 ++ tB x.text = o2 := ⟨_, rfl⟩
  obtain ⟨o3, ho3⟩ : ∃ o3, o2 ++ n1 x.k = o3 := ⟨_, rfl⟩
  obtain ⟨o4, ho4⟩ : ∃ o4, o3 ++ n1 x.batch = o4 := ⟨_, rfl⟩
  obtain ⟨o5, ho5⟩ : ∃ o5, o4 ++ fB x.first = o5 := ⟨_, rfl⟩
  obtain ⟨o6, ho6⟩ : ∃ o6, o5 ++ n1 x.ad = o6 := ⟨_, rfl⟩
  have hO : o6 ++ tB x.aw = o := by rw [← ho, ← ho6, ← ho5, ← ho4, ← ho3, ← ho2, ← ho1]; unfold askB itB; simp only [List.append_assoc]
  have K2 := Lib.hid (fun a c w1 (h : BB w o1 a c w1) (hl : o1.length = 20) => dtext x.text o2 m2 h hl (by omega) ht ho2 hm2)
  have K3 := Lib.hid (fun a c w1 (h : BB w o2 a c w1) (hl : o2.length = m2) => dput x.k 1 1 rfl (by omega) o3 m3 h hl (by omega) ho3 hm3)
  have K4 := Lib.hid (fun a c w1 (h : BB w o3 a c w1) (hl : o3.length = m3) => dput x.batch 1 1 rfl (by omega) o4 m4 h hl (by omega) ho4 hm4)
  have K5 := Lib.hid (fun a c w1 (h : BB w o4 a c w1) (hl : o4.length = m4) => dflag x.first o5 m5 h hl (by omega) ho5 hm5)
  have K6 := Lib.hid (fun a c w1 (h : BB w o5 a c w1) (hl : o5.length = m5) => dput x.ad 1 1 rfl (by omega) o6 m6 h hl (by omega) ho6 hm6)
  have K7 := Lib.hid (fun a c w1 (h : BB w o6 a c w1) (hl : o6.length = m6) => dtext x.aw o m h hl (by omega) ha hO (by omega))
  obtain ⟨w3, hw3⟩ : ∃ w3, w.alloc (.cells #[.int .i64 x.slot, .int .i64 x.query, .int .i64 x.shard, .int .i64 x.seq, .int .i64 x.epoch, .string x.text, .int .i64 x.k, .int .i64 x.batch, .bool x.first, .int .i64 x.ad, .string x.aw] 29) = w3 := ⟨_, rfl⟩
  have BX := Lib.hid (show Below w.heap.size w w3 from hw3 ▸ below_one w _)
  have XI := Lib.hid (show MAskIn w3 w.heap.size x from hw3 ▸ MAskIn_new _ x _ _ (0, 0) rfl)
  have T1 := Lib.hid ht; have T2 := Lib.hid ha
  clear ht ha ho hm hM ho1 hm2 hm3 hm4 hm5 hm6 ho2 ho3 ho4 ho5 ho6 hO
  go_enter Try.func67, Try.ntmps67
  go_upto_region 1 with fail
  try rw [hw3]
  clear hw3
  obtain ⟨p, hp⟩ : ∃ p, w.heap.size = p := ⟨_, rfl⟩
  rw [hp] at XI
  try simp only [hp]
  clear hp
  have hX := XI.out
  unfold MAskIn at hX
  obtain ⟨x0, x1, x2, x3, x4, x5, x6, x7, x8, x9, x10⟩ := hX
  go_wp2_with fail
  have hb4 := below_one w3 (.cells #[.int .i64 x.slot, .int .i64 x.query, .int .i64 x.shard, .int .i64 x.seq, .int .i64 x.epoch] 3)
  have CF' := Lib.hid (CF.out w3)
  refine CF'.out.mono ?_
  rintro e w4 ⟨a1, c1, rfl, hl1, hB1, hb⟩
  have hb5 := hb4.trans (hb.mono hb4.size)
  have X4 := Lib.hid (XI.out.below hb5)
  have D1 := Lib.hid (hB1.rebase (BX.out.trans (hb4.mono BX.out.size)))
  have E2 := Lib.hid (K2.out a1 c1 w4 D1.out hl1)
  clear x0 x1 x2 x3 x4 x5 x6 x7 x8 x9 x10 hb4 CF CF' hB1 hb hb5 hl1 K2
  have hX := X4.out
  unfold MAskIn at hX
  obtain ⟨x0, x1, x2, x3, x4, x5, x6, x7, x8, x9, x10⟩ := hX
  go_wp2_with fail
  with_reducible refine E2.out.mono ?_
  rintro e w5 ⟨a2, c2, rfl, hl2, hB2, hb⟩
  have X5 := Lib.hid (X4.out.below hb)
  have D2 := Lib.hid hB2
  have E3 := Lib.hid (fun w1 (h : Below w5.heap.size w5 w1) => K3.out a2 c2 w1 (D2.out.more h) hl2)
  clear x0 x1 x2 x3 x4 x5 x6 x7 x8 x9 x10 hB2 hb E2 K3
  have hX := X5.out
  unfold MAskIn at hX
  obtain ⟨x0, x1, x2, x3, x4, x5, x6, x7, x8, x9, x10⟩ := hX
  have TD := Lib.hid (show Below w5.heap.size w5 w5.drew ∧ w5.drew.cell? ⟨p, 6, none⟩ = some (.int .i64 x.k) ∧ w5.drew.cell? ⟨p, 7, none⟩ = some (.int .i64 x.batch) from ⟨(Below.refl _ _).drew, x6, x7⟩)
  clear x0 x1 x2 x3 x4 x5 x6 x7 x8 x9 x10 hl2
  go_upto_region 3 with fail
  go_region_held3 (fun w' => Below w5.heap.size w5 w' ∧ w'.cell? ⟨p, 6, none⟩ = some (.int .i64 x.k) ∧ w'.cell? ⟨p, 7, none⟩ = some (.int .i64 x.batch))
    (first | assumption | exact TD.out | exact as_carry (by assumption) (by assumption))
    (first
      | (go_at_call 37; (with_reducible refine (E3.out _ (And.left (by assumption))).mono ?_); rintro e w' ⟨a3, c3, rfl, hl3, hB3, hb3⟩)
      | (go_at_call 37; (with_reducible refine (K4.out _ _ _ (by assumption) (by assumption)).mono ?_); rintro e w' ⟨a4, c4, rfl, hl4, hB4, hb4⟩)
      | fail)
  all_goals
    have hS : Below w5.heap.size w5 w' ∧ w'.cell? ⟨p, 6, none⟩ = some (.int .i64 x.k) ∧ w'.cell? ⟨p, 7, none⟩ = some (.int .i64 x.batch) := by assumption
    have X6 := Lib.hid (X5.out.below hS.1)
    have E5 := Lib.hid (K5.out a4 c4 w' hB4 hl4)
    clear hS hB3 hb3 hB4 hb4 hl3 hl4 K4 K5 E3 TD
    have hX := X6.out
    unfold MAskIn at hX
    obtain ⟨x0, x1, x2, x3, x4, x5, x6, x7, x8, x9, x10⟩ := hX
    go_wp2_with fail
    with_reducible refine E5.out.mono ?_
    rintro e w6 ⟨a5, c5, rfl, hl5, hB5, hb⟩
    have X7 := Lib.hid (X6.out.below hb)
    have D5 := Lib.hid hB5
    have E6 := Lib.hid (fun w1 (h : Below w6.heap.size w6 w1) => K6.out a5 c5 w1 (D5.out.more h) hl5)
    clear x0 x1 x2 x3 x4 x5 x6 x7 x8 x9 x10 hB5 hb E5 K6 hl5
    have hX := X7.out
    unfold MAskIn at hX
    obtain ⟨x0, x1, x2, x3, x4, x5, x6, x7, x8, x9, x10⟩ := hX
    have TE := Lib.hid (show Below w6.heap.size w6 w6.drew ∧ w6.drew.cell? ⟨p, 9, none⟩ = some (.int .i64 x.ad) ∧ w6.drew.cell? ⟨p, 10, none⟩ = some (.string x.aw) from ⟨(Below.refl _ _).drew, x9, x10⟩)
    clear x0 x1 x2 x3 x4 x5 x6 x7 x8 x9 x10
    go_upto_region 5 with fail
    go_region_held3 (fun w' => Below w6.heap.size w6 w' ∧ w'.cell? ⟨p, 9, none⟩ = some (.int .i64 x.ad) ∧ w'.cell? ⟨p, 10, none⟩ = some (.string x.aw))
      (first | assumption | exact TE.out | exact as_carry (by assumption) (by assumption))
      (first
        | (go_at_call 37; (with_reducible refine (E6.out _ (And.left (by assumption))).mono ?_); rintro e w' ⟨a6, c6, rfl, hl6, hB6, hb6⟩)
        | (go_at_call 89; (with_reducible refine (K7.out _ _ _ (by assumption) (by assumption)).mono ?_); rintro e w' ⟨a7, c7, rfl, hl7, hB7, hb7⟩)
        | fail)
    all_goals
      have FF := Lib.hid (show RBB w w o m (.returned (.slice a7 m c7)) _ from ⟨a7, c7, rfl, hl7, hB7, hB7.b⟩)
      clear hB6 hb6 hB7 hb7 hl6 hl7
      go_wp2_with fail
      go_ret
      exact FF.out
end Go.Proofs.Ythboiklcjpnhbaa
