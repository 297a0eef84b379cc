/- msg: read -/
import Derived.Test.YthboiklcjpnhbaaMb2
namespace Go.Proofs.Ythboiklcjpnhbaa
open Go.RowKit
set_option linter.unusedVariables false
set_option maxRecDepth 20000
def rs0 : RS := ⟨0, false⟩
def kdR (bs : List Nat) (n : Nat) : Int := gNum bs n 1 rs0
def rs1 (n : Nat) : RS := rNum n 1 rs0
/-- what bytes tell: a message -/
def GotM (bs : List Nat) (n : Nat) (M : MsgV) : Prop :=
  if kdR bs n = 1 then M = .hello (gNum bs n 4 (rs1 n)) (gNum bs n 4 (rNum n 4 (rs1 n)))
  else if kdR bs n = 2 then M = .grant (gNum bs n 4 (rs1 n)) (gNum bs n 4 (rNum n 4 (rs1 n))) (gNum bs n 4 (rNum n 4 (rNum n 4 (rs1 n))))
  else if kdR bs n = 3 then M = .ask (gAsk bs n (rs1 n))
  else if kdR bs n = 4 then ∃ (ia : Option Addr) (m ic : Nat), mRep bs n (rs1 n) = (m : Int) ∧ M = .reply (gRep bs n (rs1 n) ia m ic)
  else if kdR bs n = 5 then M = .stop (gNum bs n 4 (rs1 n)) (gNum bs n 4 (rNum n 4 (rs1 n)))
  else M = .none
def ReadM (w : World) (bs : List Nat) (n : Nat) (e : Ending) (w' : World) : Prop := ∃ M, e = .returned (valM M) ∧ heldM w' M ∧ GotM bs n M ∧ Below w.heap.size w w'
theorem turn_new {w w1 w2 : World} {r : Nat} (hb : Below w.heap.size w w1) (t : Turn (fun k => k = r) w1 w2) (hr : w.heap.size ≤ r) : Below w.heap.size w w2 := hb.trans (t.below (fun k hk => by omega) hb.size)
set_option maxHeartbeats 6400000 in
set_option maxRecDepth 100000 in
theorem mread_any (a : Option Addr) (n cap : Nat) (bs : List Nat) (w : World) (h : HoldsB w a n bs) (h0 : 0 < n) (hn : n ≤ 100000) (hc : n ≤ cap) :
    Calls Try.prog 47 #[.slice a n cap] w (ReadM w bs n) := by
  have CR := Lib.hid (rdRead_any a n cap bs w h (fun q o e => by
    obtain ⟨q2, o2, e2, hcc⟩ := h.at h0
    rw [e] at e2
    injection e2 with e2; injection e2 with e2 e3; subst e2; subst e3
    exact lt_of_cell (hcc 0 h0)))
  obtain ⟨kd, hkd⟩ : ∃ k, kdR bs n = k := ⟨_, rfl⟩
  have HKD := Lib.hid hkd
  have C0 := Lib.hid (fun r w' (h' : RdS r a n cap bs rs0 w') => rsNum 1 1 rfl (by omega) (by omega) w' h')
  unfold kdR at hkd
  rw [hkd] at C0
  obtain ⟨s1, hs1⟩ : ∃ s, rNum n 1 rs0 = s := ⟨_, rfl⟩
  have HS1 := Lib.hid (show rs1 n = s1 from hs1)
  rw [hs1] at C0
  have NC := Lib.hid (And.intro hn hc)
  clear h hkd hs1 h0 hc
  go_enter Try.func47, Try.ntmps47
  go_wp2_with fail
  with_reducible refine CR.out.mono ?_
  rintro e w1 ⟨rfl, hm, hb, hz⟩
  obtain ⟨r, hr⟩ : ∃ r, w.heap.size = r := ⟨_, rfl⟩
  have HR := Lib.hid (show w.heap.size ≤ r from by omega)
  rw [hr] at hm
  have B1 := Lib.hid hb
  have M1 := Lib.hid (show RdS r a n cap bs rs0 w1 from ⟨hm, Nat.zero_le _, NC.out.1, NC.out.2⟩)
  rw [hr]
  clear hm hb hz hr CR
  have D0 := Lib.hid (C0.out r w1 M1.out)
  clear C0
  go_wp2_with fail
  with_reducible refine D0.out.mono ?_
  rintro e w2 ⟨rfl, hm, ht⟩
  have M2 := Lib.hid hm
  have B2 := Lib.hid (turn_new B1.out ht HR.out)
  clear hm ht D0 M1 B1
  by_cases h1 : kd = 1
  · have e1 : (kd == 1) = true := by simpa using h1
    obtain ⟨v0, hv0⟩ : ∃ v, gNum bs n 4 s1 = v := ⟨_, rfl⟩
    obtain ⟨t0, ht0⟩ : ∃ s, rNum n 4 s1 = s := ⟨_, rfl⟩
    have C0 := Lib.hid (fun w' (h' : RdS r a n cap bs s1 w') => rsNum 4 4 rfl (by omega) (by omega) w' h')
    rw [hv0, ht0] at C0
    obtain ⟨v1, hv1⟩ : ∃ v, gNum bs n 4 t0 = v := ⟨_, rfl⟩
    obtain ⟨t1, ht1⟩ : ∃ s, rNum n 4 t0 = s := ⟨_, rfl⟩
    have C1 := Lib.hid (fun w' (h' : RdS r a n cap bs t0 w') => rsNum 4 4 rfl (by omega) (by omega) w' h')
    rw [hv1, ht1] at C1
    have GG := Lib.hid (show GotM bs n (.hello v0 v1) from by
      unfold GotM
      rw [if_pos (show kdR bs n = 1 by rw [HKD.out]; exact h1), HS1.out, hv0, ht0, hv1])
    clear hv0 ht0 hv1 ht1 h1
    have D0 := Lib.hid (C0.out w2 M2.out)
    clear C0
    go_wp2_with fail
    with_reducible refine D0.out.mono ?_
    rintro e w3 ⟨rfl, hm, ht⟩
    have M3 := Lib.hid hm
    have B3 := Lib.hid (turn_new B2.out ht HR.out)
    clear hm ht D0
    have D1 := Lib.hid (C1.out w3 M3.out)
    clear C1
    go_wp2_with fail
    with_reducible refine D1.out.mono ?_
    rintro e w4 ⟨rfl, hm, ht⟩
    have M4 := Lib.hid hm
    have B4 := Lib.hid (turn_new B3.out ht HR.out)
    clear hm ht D1
    go_wp2_with fail
    go_ret
    exact ⟨.hello v0 v1, rfl, trivial, GG.out, B4.out⟩
  have e1 : (kd == 1) = false := by simpa using h1
  by_cases h2 : kd = 2
  · have e2 : (kd == 2) = true := by simpa using h2
    obtain ⟨v0, hv0⟩ : ∃ v, gNum bs n 4 s1 = v := ⟨_, rfl⟩
    obtain ⟨t0, ht0⟩ : ∃ s, rNum n 4 s1 = s := ⟨_, rfl⟩
    have C0 := Lib.hid (fun w' (h' : RdS r a n cap bs s1 w') => rsNum 4 4 rfl (by omega) (by omega) w' h')
    rw [hv0, ht0] at C0
    obtain ⟨v1, hv1⟩ : ∃ v, gNum bs n 4 t0 = v := ⟨_, rfl⟩
    obtain ⟨t1, ht1⟩ : ∃ s, rNum n 4 t0 = s := ⟨_, rfl⟩
    have C1 := Lib.hid (fun w' (h' : RdS r a n cap bs t0 w') => rsNum 4 4 rfl (by omega) (by omega) w' h')
    rw [hv1, ht1] at C1
    obtain ⟨v2, hv2⟩ : ∃ v, gNum bs n 4 t1 = v := ⟨_, rfl⟩
    obtain ⟨t2, ht2⟩ : ∃ s, rNum n 4 t1 = s := ⟨_, rfl⟩
    have C2 := Lib.hid (fun w' (h' : RdS r a n cap bs t1 w') => rsNum 4 4 rfl (by omega) (by omega) w' h')
    rw [hv2, ht2] at C2
    have GG := Lib.hid (show GotM bs n (.grant v0 v1 v2) from by
      unfold GotM
      rw [if_neg (show ¬ kdR bs n = 1 by rw [HKD.out]; omega), if_pos (show kdR bs n = 2 by rw [HKD.out]; exact h2), HS1.out, hv0, ht0, hv1, ht1, hv2])
    clear hv0 ht0 hv1 ht1 hv2 ht2 h2
    have D0 := Lib.hid (C0.out w2 M2.out)
    clear C0
    go_wp2_with fail
    with_reducible refine D0.out.mono ?_
    rintro e w3 ⟨rfl, hm, ht⟩
    have M3 := Lib.hid hm
    have B3 := Lib.hid (turn_new B2.out ht HR.out)
    clear hm ht D0
    have D1 := Lib.hid (C1.out w3 M3.out)
    clear C1
    go_wp2_with fail
    with_reducible refine D1.out.mono ?_
    rintro e w4 ⟨rfl, hm, ht⟩
    have M4 := Lib.hid hm
    have B4 := Lib.hid (turn_new B3.out ht HR.out)
    clear hm ht D1
    have D2 := Lib.hid (C2.out w4 M4.out)
    clear C2
    go_wp2_with fail
    with_reducible refine D2.out.mono ?_
    rintro e w5 ⟨rfl, hm, ht⟩
    have M5 := Lib.hid hm
    have B5 := Lib.hid (turn_new B4.out ht HR.out)
    clear hm ht D2
    go_wp2_with fail
    go_ret
    exact ⟨.grant v0 v1 v2, rfl, trivial, GG.out, B5.out⟩
  have e2 : (kd == 2) = false := by simpa using h2
  by_cases h3 : kd = 3
  · have e3 : (kd == 3) = true := by simpa using h3
    have CA := Lib.hid (rsAsk w2 M2.out)
    obtain ⟨x, hx⟩ : ∃ x, gAsk bs n s1 = x := ⟨_, rfl⟩
    rw [hx] at CA
    have GG := Lib.hid (show GotM bs n (.ask x) from by
      unfold GotM
      rw [if_neg (show ¬ kdR bs n = 1 by rw [HKD.out]; omega), if_neg (show ¬ kdR bs n = 2 by rw [HKD.out]; omega), if_pos (show kdR bs n = 3 by rw [HKD.out]; exact h3), HS1.out, hx])
    clear hx h3
    go_wp2_with fail
    with_reducible refine CA.out.mono ?_
    rintro e w3 ⟨rfl, hm, ht⟩
    have B3 := Lib.hid (turn_new B2.out ht HR.out)
    clear hm ht CA
    go_wp2_with fail
    go_ret
    exact ⟨.ask x, rfl, trivial, GG.out, B3.out⟩
  have e3 : (kd == 3) = false := by simpa using h3
  by_cases h4 : kd = 4
  · have e4 : (kd == 4) = true := by simpa using h4
    obtain ⟨m, hm2⟩ : ∃ m : Nat, mRep bs n s1 = (m : Int) := ⟨_, rfl⟩
    have CA := Lib.hid (rsReply m w2 M2.out hm2)
    have GG := Lib.hid (show ∀ ia ic x, x = gRep bs n s1 ia m ic → GotM bs n (.reply x) from fun ia ic x hx => by
      unfold GotM
      rw [if_neg (show ¬ kdR bs n = 1 by rw [HKD.out]; omega), if_neg (show ¬ kdR bs n = 2 by rw [HKD.out]; omega), if_neg (show ¬ kdR bs n = 3 by rw [HKD.out]; omega), if_pos (show kdR bs n = 4 by rw [HKD.out]; exact h4), HS1.out]
      exact ⟨ia, m, ic, hm2, by rw [hx]⟩)
    clear hm2 h4
    go_wp2_with fail
    with_reducible refine CA.out.mono ?_
    rintro e w3 ⟨ia, ic, x, hx, rfl, hk, hn1, hn2, hm, ht⟩
    have B3 := Lib.hid (turn_new B2.out ht HR.out)
    have G3 := Lib.hid (GG.out ia ic x hx)
    have H3 := Lib.hid (show heldM w3 (.reply x) from ⟨hk, hn1, hn2⟩)
    clear hm ht CA hx hk hn1 hn2
    go_wp2_with fail
    go_ret
    exact ⟨.reply x, rfl, H3.out, G3.out, B3.out⟩
  have e4 : (kd == 4) = false := by simpa using h4
  by_cases h5 : kd = 5
  · have e5 : (kd == 5) = true := by simpa using h5
    obtain ⟨v0, hv0⟩ : ∃ v, gNum bs n 4 s1 = v := ⟨_, rfl⟩
    obtain ⟨t0, ht0⟩ : ∃ s, rNum n 4 s1 = s := ⟨_, rfl⟩
    have C0 := Lib.hid (fun w' (h' : RdS r a n cap bs s1 w') => rsNum 4 4 rfl (by omega) (by omega) w' h')
    rw [hv0, ht0] at C0
    obtain ⟨v1, hv1⟩ : ∃ v, gNum bs n 4 t0 = v := ⟨_, rfl⟩
    obtain ⟨t1, ht1⟩ : ∃ s, rNum n 4 t0 = s := ⟨_, rfl⟩
    have C1 := Lib.hid (fun w' (h' : RdS r a n cap bs t0 w') => rsNum 4 4 rfl (by omega) (by omega) w' h')
    rw [hv1, ht1] at C1
    have GG := Lib.hid (show GotM bs n (.stop v0 v1) from by
      unfold GotM
      rw [if_neg (show ¬ kdR bs n = 1 by rw [HKD.out]; omega), if_neg (show ¬ kdR bs n = 2 by rw [HKD.out]; omega), if_neg (show ¬ kdR bs n = 3 by rw [HKD.out]; omega), if_neg (show ¬ kdR bs n = 4 by rw [HKD.out]; omega), if_pos (show kdR bs n = 5 by rw [HKD.out]; exact h5), HS1.out, hv0, ht0, hv1])
    clear hv0 ht0 hv1 ht1 h5
    have D0 := Lib.hid (C0.out w2 M2.out)
    clear C0
    go_wp2_with fail
    with_reducible refine D0.out.mono ?_
    rintro e w3 ⟨rfl, hm, ht⟩
    have M3 := Lib.hid hm
    have B3 := Lib.hid (turn_new B2.out ht HR.out)
    clear hm ht D0
    have D1 := Lib.hid (C1.out w3 M3.out)
    clear C1
    go_wp2_with fail
    with_reducible refine D1.out.mono ?_
    rintro e w4 ⟨rfl, hm, ht⟩
    have M4 := Lib.hid hm
    have B4 := Lib.hid (turn_new B3.out ht HR.out)
    clear hm ht D1
    go_wp2_with fail
    go_ret
    exact ⟨.stop v0 v1, rfl, trivial, GG.out, B4.out⟩
  have e5 : (kd == 5) = false := by simpa using h5
  have GG := Lib.hid (show GotM bs n .none from by
    unfold GotM
    rw [if_neg (show ¬ kdR bs n = 1 by rw [HKD.out]; omega), if_neg (show ¬ kdR bs n = 2 by rw [HKD.out]; omega), if_neg (show ¬ kdR bs n = 3 by rw [HKD.out]; omega), if_neg (show ¬ kdR bs n = 4 by rw [HKD.out]; omega), if_neg (show ¬ kdR bs n = 5 by rw [HKD.out]; omega)])
  clear h1 h2 h3 h4 h5
  go_wp2_with fail
  go_ret
  exact ⟨.none, rfl, trivial, GG.out, B2.out⟩
end Go.Proofs.Ythboiklcjpnhbaa
