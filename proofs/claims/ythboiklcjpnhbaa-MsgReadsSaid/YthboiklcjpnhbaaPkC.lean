/- texts joined -/
import Derived.Test.YthboiklcjpnhbaaPkB
import Derived.Test.YthboiklcjpnhbaaPkA
import Derived.Lib.DecodeN
import Derived.Test.YthboiklcjpnhbaaChecked
import Derived.WalkLawsBesides
import Derived.WalkSpells
import Derived.Outline
import Derived.Deep.QuietTactic
import Derived.BigQuiet
import Derived.Deep.DeepCutAuto
import Derived.Lib.Hide
/- msg: reading messages (by gen/mb2.py) -/
namespace Go.Proofs.Ythboiklcjpnhbaa
open Go.RowKit
set_option linter.unusedVariables false
set_option maxRecDepth 20000
theorem holdsK_turn {w w' : World} {a : Option Addr} {n : Nat} {ks : List KV} {F : Nat → Prop} (h : HoldsK w a n ks) (t : Turn F w w') (hF : ∀ q o, 0 < n → a = some ⟨q, o, none⟩ → ¬ F q) : HoldsK w' a n ks := by
  refine ⟨h.1, fun h0 => ?_⟩
  obtain ⟨b, o, ha, hc⟩ := h.2 h0
  refine ⟨b, o, ha, fun i hi => ?_⟩
  have hl := lt_of_cell (hc i hi).1
  exact ⟨(t.cell hl (hF b o h0 ha)).trans (hc i hi).1, (t.cell hl (hF b o h0 ha)).trans (hc i hi).2⟩
theorem holdsK_lt {w : World} {a : Option Addr} {n : Nat} {ks : List KV} (h : HoldsK w a n ks) (h0 : 0 < n) : ∀ q o, a = some ⟨q, o, none⟩ → q < w.heap.size := fun q o e => by
  obtain ⟨b, o2, ha, hc⟩ := h.2 h0
  rw [e] at ha; injection ha with ha; injection ha with ha hb; subst ha
  exact lt_of_cell (hc 0 h0).1
def gAsk (bs : List Nat) (n : Nat) (s : RS) : AskP := ⟨gNum bs n 4 s, gNum bs n 4 (rNum n 4 s), gNum bs n 4 (rNum n 4 (rNum n 4 s)), gNum bs n 4 (rNum n 4 (rNum n 4 (rNum n 4 s))), gNum bs n 4 (rNum n 4 (rNum n 4 (rNum n 4 (rNum n 4 s)))), gText bs n (rNum n 4 (rNum n 4 (rNum n 4 (rNum n 4 (rNum n 4 s))))), gNum bs n 1 (rText bs n (rNum n 4 (rNum n 4 (rNum n 4 (rNum n 4 (rNum n 4 s)))))), gNum bs n 1 (rNum n 1 (rText bs n (rNum n 4 (rNum n 4 (rNum n 4 (rNum n 4 (rNum n 4 s))))))), gFlag bs n (rNum n 1 (rNum n 1 (rText bs n (rNum n 4 (rNum n 4 (rNum n 4 (rNum n 4 (rNum n 4 s)))))))), (gItem bs n (rNum n 1 (rNum n 1 (rNum n 1 (rText bs n (rNum n 4 (rNum n 4 (rNum n 4 (rNum n 4 (rNum n 4 s)))))))))).1, (gItem bs n (rNum n 1 (rNum n 1 (rNum n 1 (rText bs n (rNum n 4 (rNum n 4 (rNum n 4 (rNum n 4 (rNum n 4 s)))))))))).2⟩
def rAsk (bs : List Nat) (n : Nat) (s : RS) : RS := (rItem bs n (rNum n 1 (rNum n 1 (rNum n 1 (rText bs n (rNum n 4 (rNum n 4 (rNum n 4 (rNum n 4 (rNum n 4 s))))))))))
set_option maxHeartbeats 3200000 in
set_option maxRecDepth 100000 in
theorem rsAsk {r : Nat} {a : Option Addr} {n cap : Nat} {bs : List Nat} {s : RS} (w : World) (h : RdS r a n cap bs s w) :
    Calls Try.prog 76 #[.pointer (some ⟨r, 0, none⟩)] w (RdP r a n cap bs (rAsk bs n s) w (.agg #[.int .i64 (gAsk bs n s).slot, .int .i64 (gAsk bs n s).query, .int .i64 (gAsk bs n s).shard, .int .i64 (gAsk bs n s).seq, .int .i64 (gAsk bs n s).epoch, .string (gAsk bs n s).text, .int .i64 (gAsk bs n s).k, .int .i64 (gAsk bs n s).batch, .bool (gAsk bs n s).first, .int .i64 (gAsk bs n s).ad, .string (gAsk bs n s).aw])) := by
  have BX := Lib.hid (below_one w (.cells #[.int .i64 0, .int .i64 0, .int .i64 0, .int .i64 0, .int .i64 0, .string ⟨#[]⟩, .int .i64 0, .int .i64 0, .bool false, .int .i64 0, .string ⟨#[]⟩] 29))
  obtain ⟨p, hp⟩ : ∃ p, w.heap.size = p := ⟨_, rfl⟩
  have XB := Lib.hid (show (w.alloc (.cells #[.int .i64 0, .int .i64 0, .int .i64 0, .int .i64 0, .int .i64 0, .string ⟨#[]⟩, .int .i64 0, .int .i64 0, .bool false, .int .i64 0, .string ⟨#[]⟩] 29)).cell? ⟨w.heap.size, 0, none⟩ = some (.int .i64 0) ∧ (w.alloc (.cells #[.int .i64 0, .int .i64 0, .int .i64 0, .int .i64 0, .int .i64 0, .string ⟨#[]⟩, .int .i64 0, .int .i64 0, .bool false, .int .i64 0, .string ⟨#[]⟩] 29)).cell? ⟨w.heap.size, 1, none⟩ = some (.int .i64 0) ∧ (w.alloc (.cells #[.int .i64 0, .int .i64 0, .int .i64 0, .int .i64 0, .int .i64 0, .string ⟨#[]⟩, .int .i64 0, .int .i64 0, .bool false, .int .i64 0, .string ⟨#[]⟩] 29)).cell? ⟨w.heap.size, 2, none⟩ = some (.int .i64 0) ∧ (w.alloc (.cells #[.int .i64 0, .int .i64 0, .int .i64 0, .int .i64 0, .int .i64 0, .string ⟨#[]⟩, .int .i64 0, .int .i64 0, .bool false, .int .i64 0, .string ⟨#[]⟩] 29)).cell? ⟨w.heap.size, 3, none⟩ = some (.int .i64 0) ∧ (w.alloc (.cells #[.int .i64 0, .int .i64 0, .int .i64 0, .int .i64 0, .int .i64 0, .string ⟨#[]⟩, .int .i64 0, .int .i64 0, .bool false, .int .i64 0, .string ⟨#[]⟩] 29)).cell? ⟨w.heap.size, 4, none⟩ = some (.int .i64 0) ∧ (w.alloc (.cells #[.int .i64 0, .int .i64 0, .int .i64 0, .int .i64 0, .int .i64 0, .string ⟨#[]⟩, .int .i64 0, .int .i64 0, .bool false, .int .i64 0, .string ⟨#[]⟩] 29)).cell? ⟨w.heap.size, 5, none⟩ = some (.string ⟨#[]⟩) ∧ (w.alloc (.cells #[.int .i64 0, .int .i64 0, .int .i64 0, .int .i64 0, .int .i64 0, .string ⟨#[]⟩, .int .i64 0, .int .i64 0, .bool false, .int .i64 0, .string ⟨#[]⟩] 29)).cell? ⟨w.heap.size, 6, none⟩ = some (.int .i64 0) ∧ (w.alloc (.cells #[.int .i64 0, .int .i64 0, .int .i64 0, .int .i64 0, .int .i64 0, .string ⟨#[]⟩, .int .i64 0, .int .i64 0, .bool false, .int .i64 0, .string ⟨#[]⟩] 29)).cell? ⟨w.heap.size, 7, none⟩ = some (.int .i64 0) ∧ (w.alloc (.cells #[.int .i64 0, .int .i64 0, .int .i64 0, .int .i64 0, .int .i64 0, .string ⟨#[]⟩, .int .i64 0, .int .i64 0, .bool false, .int .i64 0, .string ⟨#[]⟩] 29)).cell? ⟨w.heap.size, 8, none⟩ = some (.bool false) ∧ (w.alloc (.cells #[.int .i64 0, .int .i64 0, .int .i64 0, .int .i64 0, .int .i64 0, .string ⟨#[]⟩, .int .i64 0, .int .i64 0, .bool false, .int .i64 0, .string ⟨#[]⟩] 29)).cell? ⟨w.heap.size, 9, none⟩ = some (.int .i64 0) ∧ (w.alloc (.cells #[.int .i64 0, .int .i64 0, .int .i64 0, .int .i64 0, .int .i64 0, .string ⟨#[]⟩, .int .i64 0, .int .i64 0, .bool false, .int .i64 0, .string ⟨#[]⟩] 29)).cell? ⟨w.heap.size, 10, none⟩ = some (.string ⟨#[]⟩) from ⟨by rw [World.cell?_alloc_mark]; rfl, by rw [World.cell?_alloc_mark]; rfl, by rw [World.cell?_alloc_mark]; rfl, by rw [World.cell?_alloc_mark]; rfl, by rw [World.cell?_alloc_mark]; rfl, by rw [World.cell?_alloc_mark]; rfl, by rw [World.cell?_alloc_mark]; rfl, by rw [World.cell?_alloc_mark]; rfl, by rw [World.cell?_alloc_mark]; rfl, by rw [World.cell?_alloc_mark]; rfl, by rw [World.cell?_alloc_mark]; rfl⟩)
  have XF := fun i => frozen_alloc (w := w) (cs := #[.int .i64 0, .int .i64 0, .int .i64 0, .int .i64 0, .int .i64 0, .string ⟨#[]⟩, .int .i64 0, .int .i64 0, .bool false, .int .i64 0, .string ⟨#[]⟩]) (T := 29) (o := i) rfl
  obtain ⟨w1, hw1⟩ : ∃ w1, w.alloc (.cells #[.int .i64 0, .int .i64 0, .int .i64 0, .int .i64 0, .int .i64 0, .string ⟨#[]⟩, .int .i64 0, .int .i64 0, .bool false, .int .i64 0, .string ⟨#[]⟩] 29) = w1 := ⟨_, rfl⟩
  have lr := Lib.hid (show r < p from by rw [← hp]; exact lt_of_cell h.m.c0)
  rw [hw1] at BX XB XF
  rw [hp] at XB XF
  have PL := Lib.hid (lt_of_cell XB.out.1)
  have XF0 := Lib.hid XF
  have TW := Lib.hid (show Turn (fun k => k = r) w w1 from Turn.of_below BX.out)
  have HP := Lib.hid hp
  have AL := Lib.hid (show 0 < n → ∀ q o, a = some ⟨q, o, none⟩ → q < p from hp ▸ fun h0 => h.lt h0)
  have M1 := Lib.hid (h.below BX.out)
  obtain ⟨v0, hv0⟩ : ∃ v, gNum bs n 4 s = v := ⟨_, rfl⟩
  obtain ⟨s1, hs1⟩ : ∃ s', rNum n 4 s = s' := ⟨_, rfl⟩
  have C0 := Lib.hid (fun w' (h' : RdS r a n cap bs s w') => rsNum 4 4 rfl (by omega) (by omega) w' h')
  rw [hv0, hs1] at C0
  obtain ⟨v1, hv1⟩ : ∃ v, gNum bs n 4 s1 = v := ⟨_, rfl⟩
  obtain ⟨s2, hs2⟩ : ∃ s', rNum n 4 s1 = s' := ⟨_, rfl⟩
  have C1 := Lib.hid (fun w' (h' : RdS r a n cap bs s1 w') => rsNum 4 4 rfl (by omega) (by omega) w' h')
  rw [hv1, hs2] at C1
  obtain ⟨v2, hv2⟩ : ∃ v, gNum bs n 4 s2 = v := ⟨_, rfl⟩
  obtain ⟨s3, hs3⟩ : ∃ s', rNum n 4 s2 = s' := ⟨_, rfl⟩
  have C2 := Lib.hid (fun w' (h' : RdS r a n cap bs s2 w') => rsNum 4 4 rfl (by omega) (by omega) w' h')
  rw [hv2, hs3] at C2
  obtain ⟨v3, hv3⟩ : ∃ v, gNum bs n 4 s3 = v := ⟨_, rfl⟩
  obtain ⟨s4, hs4⟩ : ∃ s', rNum n 4 s3 = s' := ⟨_, rfl⟩
  have C3 := Lib.hid (fun w' (h' : RdS r a n cap bs s3 w') => rsNum 4 4 rfl (by omega) (by omega) w' h')
  rw [hv3, hs4] at C3
  obtain ⟨v4, hv4⟩ : ∃ v, gNum bs n 4 s4 = v := ⟨_, rfl⟩
  obtain ⟨s5, hs5⟩ : ∃ s', rNum n 4 s4 = s' := ⟨_, rfl⟩
  have C4 := Lib.hid (fun w' (h' : RdS r a n cap bs s4 w') => rsNum 4 4 rfl (by omega) (by omega) w' h')
  rw [hv4, hs5] at C4
  obtain ⟨v5, hv5⟩ : ∃ v, gText bs n s5 = v := ⟨_, rfl⟩
  obtain ⟨s6, hs6⟩ : ∃ s', rText bs n s5 = s' := ⟨_, rfl⟩
  have C5 := Lib.hid (fun w' (h' : RdS r a n cap bs s5 w') => rsText w' h')
  rw [hv5, hs6] at C5
  obtain ⟨v6, hv6⟩ : ∃ v, gNum bs n 1 s6 = v := ⟨_, rfl⟩
  obtain ⟨s7, hs7⟩ : ∃ s', rNum n 1 s6 = s' := ⟨_, rfl⟩
  have C6 := Lib.hid (fun w' (h' : RdS r a n cap bs s6 w') => rsNum 1 1 rfl (by omega) (by omega) w' h')
  rw [hv6, hs7] at C6
  obtain ⟨v7, hv7⟩ : ∃ v, gNum bs n 1 s7 = v := ⟨_, rfl⟩
  obtain ⟨s8, hs8⟩ : ∃ s', rNum n 1 s7 = s' := ⟨_, rfl⟩
  have C7 := Lib.hid (fun w' (h' : RdS r a n cap bs s7 w') => rsNum 1 1 rfl (by omega) (by omega) w' h')
  rw [hv7, hs8] at C7
  obtain ⟨v8, hv8⟩ : ∃ v, gFlag bs n s8 = v := ⟨_, rfl⟩
  obtain ⟨s9, hs9⟩ : ∃ s', rNum n 1 s8 = s' := ⟨_, rfl⟩
  have C8 := Lib.hid (fun w' (h' : RdS r a n cap bs s8 w') => rsFlag w' h')
  rw [hv8, hs9] at C8
  obtain ⟨v9, hv9⟩ : ∃ v, (gItem bs n s9).1 = v := ⟨_, rfl⟩
  obtain ⟨v10, hv10⟩ : ∃ v, (gItem bs n s9).2 = v := ⟨_, rfl⟩
  obtain ⟨s10, hs10⟩ : ∃ s', rItem bs n s9 = s' := ⟨_, rfl⟩
  have C9 := Lib.hid (fun w' (h' : RdS r a n cap bs s9 w') => rsItem w' h')
  rw [hv9, hv10, hs10] at C9
  have HV := Lib.hid (show gAsk bs n s = ⟨v0, v1, v2, v3, v4, v5, v6, v7, v8, v9, v10⟩ from by
    unfold gAsk
    rw [hv0, hs1, hv1, hs2, hv2, hs3, hv3, hs4, hv4, hs5, hv5, hs6, hv6, hs7, hv7, hs8, hv8, hs9, hv9, hv10])
  have HS := Lib.hid (show rAsk bs n s = s10 from by
    unfold rAsk
    rw [hs1, hs2, hs3, hs4, hs5, hs6, hs7, hs8, hs9, hs10])
  rw [HV.out, HS.out]
  clear h XF hv0 hv1 hv2 hv3 hv4 hv5 hv6 hv7 hv8 hv9 hv10 hs1 hs2 hs3 hs4 hs5 hs6 hs7 hs8 hs9 hs10
  go_enter Try.func76, Try.ntmps76
  go_upto_region 1 with fail
  try rw [hw1]
  try simp only [hp]
  clear hw1 hp
  have T1 := Lib.hid TW.out
  have D0 := Lib.hid (C0.out w1 M1.out)
  clear C0
  go_wp2_with fail
  with_reducible refine D0.out.mono ?_
  rintro e w2 ⟨rfl, hm, ht⟩
  have M2 := Lib.hid hm
  have T2 := Lib.hid (T1.out.trans ht)
  have U2 := Lib.hid (show Turn (fun k => k = r) w1 w2 from ht)
  clear hm ht D0
  have D1 := Lib.hid (C1.out w2 M2.out)
  clear C1
  go_wp2_with fail
  with_reducible refine D1.out.mono ?_
  rintro e w3 ⟨rfl, hm, ht⟩
  have M3 := Lib.hid hm
  have T3 := Lib.hid (T2.out.trans ht)
  have U3 := Lib.hid (show Turn (fun k => k = r) w1 w3 from U2.out.trans ht)
  clear hm ht D1
  have D2 := Lib.hid (C2.out w3 M3.out)
  clear C2
  go_wp2_with fail
  with_reducible refine D2.out.mono ?_
  rintro e w4 ⟨rfl, hm, ht⟩
  have M4 := Lib.hid hm
  have T4 := Lib.hid (T3.out.trans ht)
  have U4 := Lib.hid (show Turn (fun k => k = r) w1 w4 from U3.out.trans ht)
  clear hm ht D2
  have D3 := Lib.hid (C3.out w4 M4.out)
  clear C3
  go_wp2_with fail
  with_reducible refine D3.out.mono ?_
  rintro e w5 ⟨rfl, hm, ht⟩
  have M5 := Lib.hid hm
  have T5 := Lib.hid (T4.out.trans ht)
  have U5 := Lib.hid (show Turn (fun k => k = r) w1 w5 from U4.out.trans ht)
  clear hm ht D3
  have D4 := Lib.hid (C4.out w5 M5.out)
  clear C4
  go_wp2_with fail
  with_reducible refine D4.out.mono ?_
  rintro e w6 ⟨rfl, hm, ht⟩
  have M6 := Lib.hid hm
  have T6 := Lib.hid (T5.out.trans ht)
  have U6 := Lib.hid (show Turn (fun k => k = r) w1 w6 from U5.out.trans ht)
  clear hm ht D4
  have D5 := Lib.hid (C5.out w6 M6.out)
  clear C5
  go_wp2_with fail
  with_reducible refine D5.out.mono ?_
  rintro e w7 ⟨rfl, hm, ht⟩
  have M7 := Lib.hid hm
  have T7 := Lib.hid (T6.out.trans ht)
  have U7 := Lib.hid (show Turn (fun k => k = r) w1 w7 from U6.out.trans ht)
  clear hm ht D5
  have D6 := Lib.hid (C6.out w7 M7.out)
  clear C6
  go_wp2_with fail
  with_reducible refine D6.out.mono ?_
  rintro e w8 ⟨rfl, hm, ht⟩
  have M8 := Lib.hid hm
  have T8 := Lib.hid (T7.out.trans ht)
  have U8 := Lib.hid (show Turn (fun k => k = r) w1 w8 from U7.out.trans ht)
  clear hm ht D6
  have D7 := Lib.hid (C7.out w8 M8.out)
  clear C7
  go_wp2_with fail
  with_reducible refine D7.out.mono ?_
  rintro e w9 ⟨rfl, hm, ht⟩
  have M9 := Lib.hid hm
  have T9 := Lib.hid (T8.out.trans ht)
  have U9 := Lib.hid (show Turn (fun k => k = r) w1 w9 from U8.out.trans ht)
  clear hm ht D7
  have D8 := Lib.hid (C8.out w9 M9.out)
  clear C8
  go_wp2_with fail
  with_reducible refine D8.out.mono ?_
  rintro e w10 ⟨rfl, hm, ht⟩
  have M10 := Lib.hid hm
  have T10 := Lib.hid (T9.out.trans ht)
  have U10 := Lib.hid (show Turn (fun k => k = r) w1 w10 from U9.out.trans ht)
  clear hm ht D8
  have D9 := Lib.hid (C9.out w10 M10.out)
  clear C9
  go_wp2_with fail
  with_reducible refine D9.out.mono ?_
  rintro e w11 ⟨rfl, hm, ht⟩
  have M11 := Lib.hid hm
  have T11 := Lib.hid (T10.out.trans ht)
  have U11 := Lib.hid (show Turn (fun k => k = r) w1 w11 from U10.out.trans ht)
  clear hm ht D9
  obtain ⟨q0, q1, q2, q3, q4, q5, q6, q7, q8, q9, q10⟩ := XB.out
  have y0 := (U11.out.cell PL.out (fun e => by have := lr.out; omega)).trans q0
  have f0 := (U11.out.frozen (o := 0) PL.out (fun e => by have := lr.out; omega)).trans (XF0.out 0)
  have y1 := (U11.out.cell PL.out (fun e => by have := lr.out; omega)).trans q1
  have f1 := (U11.out.frozen (o := 1) PL.out (fun e => by have := lr.out; omega)).trans (XF0.out 1)
  have y2 := (U11.out.cell PL.out (fun e => by have := lr.out; omega)).trans q2
  have f2 := (U11.out.frozen (o := 2) PL.out (fun e => by have := lr.out; omega)).trans (XF0.out 2)
  have y3 := (U11.out.cell PL.out (fun e => by have := lr.out; omega)).trans q3
  have f3 := (U11.out.frozen (o := 3) PL.out (fun e => by have := lr.out; omega)).trans (XF0.out 3)
  have y4 := (U11.out.cell PL.out (fun e => by have := lr.out; omega)).trans q4
  have f4 := (U11.out.frozen (o := 4) PL.out (fun e => by have := lr.out; omega)).trans (XF0.out 4)
  have y5 := (U11.out.cell PL.out (fun e => by have := lr.out; omega)).trans q5
  have f5 := (U11.out.frozen (o := 5) PL.out (fun e => by have := lr.out; omega)).trans (XF0.out 5)
  have y6 := (U11.out.cell PL.out (fun e => by have := lr.out; omega)).trans q6
  have f6 := (U11.out.frozen (o := 6) PL.out (fun e => by have := lr.out; omega)).trans (XF0.out 6)
  have y7 := (U11.out.cell PL.out (fun e => by have := lr.out; omega)).trans q7
  have f7 := (U11.out.frozen (o := 7) PL.out (fun e => by have := lr.out; omega)).trans (XF0.out 7)
  have y8 := (U11.out.cell PL.out (fun e => by have := lr.out; omega)).trans q8
  have f8 := (U11.out.frozen (o := 8) PL.out (fun e => by have := lr.out; omega)).trans (XF0.out 8)
  have y9 := (U11.out.cell PL.out (fun e => by have := lr.out; omega)).trans q9
  have f9 := (U11.out.frozen (o := 9) PL.out (fun e => by have := lr.out; omega)).trans (XF0.out 9)
  have y10 := (U11.out.cell PL.out (fun e => by have := lr.out; omega)).trans q10
  have f10 := (U11.out.frozen (o := 10) PL.out (fun e => by have := lr.out; omega)).trans (XF0.out 10)
  have g0 : (w11.setCell ⟨p, 0, none⟩ (.int .i64 v0)).cell? ⟨p, 0, none⟩ = some (.int .i64 v0) := cset_at (y0)
  have g1 : ((w11.setCell ⟨p, 0, none⟩ (.int .i64 v0)).setCell ⟨p, 1, none⟩ (.int .i64 v1)).cell? ⟨p, 1, none⟩ = some (.int .i64 v1) := cset_at ((cset_ne (by omega)).trans (y1))
  have g2 : (((w11.setCell ⟨p, 0, none⟩ (.int .i64 v0)).setCell ⟨p, 1, none⟩ (.int .i64 v1)).setCell ⟨p, 2, none⟩ (.int .i64 v2)).cell? ⟨p, 2, none⟩ = some (.int .i64 v2) := cset_at ((cset_ne (by omega)).trans ((cset_ne (by omega)).trans (y2)))
  have g3 : ((((w11.setCell ⟨p, 0, none⟩ (.int .i64 v0)).setCell ⟨p, 1, none⟩ (.int .i64 v1)).setCell ⟨p, 2, none⟩ (.int .i64 v2)).setCell ⟨p, 3, none⟩ (.int .i64 v3)).cell? ⟨p, 3, none⟩ = some (.int .i64 v3) := cset_at ((cset_ne (by omega)).trans ((cset_ne (by omega)).trans ((cset_ne (by omega)).trans (y3))))
  have g4 : (((((w11.setCell ⟨p, 0, none⟩ (.int .i64 v0)).setCell ⟨p, 1, none⟩ (.int .i64 v1)).setCell ⟨p, 2, none⟩ (.int .i64 v2)).setCell ⟨p, 3, none⟩ (.int .i64 v3)).setCell ⟨p, 4, none⟩ (.int .i64 v4)).cell? ⟨p, 4, none⟩ = some (.int .i64 v4) := cset_at ((cset_ne (by omega)).trans ((cset_ne (by omega)).trans ((cset_ne (by omega)).trans ((cset_ne (by omega)).trans (y4)))))
  have g5 : ((((((w11.setCell ⟨p, 0, none⟩ (.int .i64 v0)).setCell ⟨p, 1, none⟩ (.int .i64 v1)).setCell ⟨p, 2, none⟩ (.int .i64 v2)).setCell ⟨p, 3, none⟩ (.int .i64 v3)).setCell ⟨p, 4, none⟩ (.int .i64 v4)).setCell ⟨p, 5, none⟩ (.string v5)).cell? ⟨p, 5, none⟩ = some (.string v5) := cset_at ((cset_ne (by omega)).trans ((cset_ne (by omega)).trans ((cset_ne (by omega)).trans ((cset_ne (by omega)).trans ((cset_ne (by omega)).trans (y5))))))
  have g6 : (((((((w11.setCell ⟨p, 0, none⟩ (.int .i64 v0)).setCell ⟨p, 1, none⟩ (.int .i64 v1)).setCell ⟨p, 2, none⟩ (.int .i64 v2)).setCell ⟨p, 3, none⟩ (.int .i64 v3)).setCell ⟨p, 4, none⟩ (.int .i64 v4)).setCell ⟨p, 5, none⟩ (.string v5)).setCell ⟨p, 6, none⟩ (.int .i64 v6)).cell? ⟨p, 6, none⟩ = some (.int .i64 v6) := cset_at ((cset_ne (by omega)).trans ((cset_ne (by omega)).trans ((cset_ne (by omega)).trans ((cset_ne (by omega)).trans ((cset_ne (by omega)).trans ((cset_ne (by omega)).trans (y6)))))))
  have g7 : ((((((((w11.setCell ⟨p, 0, none⟩ (.int .i64 v0)).setCell ⟨p, 1, none⟩ (.int .i64 v1)).setCell ⟨p, 2, none⟩ (.int .i64 v2)).setCell ⟨p, 3, none⟩ (.int .i64 v3)).setCell ⟨p, 4, none⟩ (.int .i64 v4)).setCell ⟨p, 5, none⟩ (.string v5)).setCell ⟨p, 6, none⟩ (.int .i64 v6)).setCell ⟨p, 7, none⟩ (.int .i64 v7)).cell? ⟨p, 7, none⟩ = some (.int .i64 v7) := cset_at ((cset_ne (by omega)).trans ((cset_ne (by omega)).trans ((cset_ne (by omega)).trans ((cset_ne (by omega)).trans ((cset_ne (by omega)).trans ((cset_ne (by omega)).trans ((cset_ne (by omega)).trans (y7))))))))
  have g8 : (((((((((w11.setCell ⟨p, 0, none⟩ (.int .i64 v0)).setCell ⟨p, 1, none⟩ (.int .i64 v1)).setCell ⟨p, 2, none⟩ (.int .i64 v2)).setCell ⟨p, 3, none⟩ (.int .i64 v3)).setCell ⟨p, 4, none⟩ (.int .i64 v4)).setCell ⟨p, 5, none⟩ (.string v5)).setCell ⟨p, 6, none⟩ (.int .i64 v6)).setCell ⟨p, 7, none⟩ (.int .i64 v7)).setCell ⟨p, 8, none⟩ (.bool v8)).cell? ⟨p, 8, none⟩ = some (.bool v8) := cset_at ((cset_ne (by omega)).trans ((cset_ne (by omega)).trans ((cset_ne (by omega)).trans ((cset_ne (by omega)).trans ((cset_ne (by omega)).trans ((cset_ne (by omega)).trans ((cset_ne (by omega)).trans ((cset_ne (by omega)).trans (y8)))))))))
  have g9 : ((((((((((w11.setCell ⟨p, 0, none⟩ (.int .i64 v0)).setCell ⟨p, 1, none⟩ (.int .i64 v1)).setCell ⟨p, 2, none⟩ (.int .i64 v2)).setCell ⟨p, 3, none⟩ (.int .i64 v3)).setCell ⟨p, 4, none⟩ (.int .i64 v4)).setCell ⟨p, 5, none⟩ (.string v5)).setCell ⟨p, 6, none⟩ (.int .i64 v6)).setCell ⟨p, 7, none⟩ (.int .i64 v7)).setCell ⟨p, 8, none⟩ (.bool v8)).setCell ⟨p, 9, none⟩ (.int .i64 v9)).cell? ⟨p, 9, none⟩ = some (.int .i64 v9) := cset_at ((cset_ne (by omega)).trans ((cset_ne (by omega)).trans ((cset_ne (by omega)).trans ((cset_ne (by omega)).trans ((cset_ne (by omega)).trans ((cset_ne (by omega)).trans ((cset_ne (by omega)).trans ((cset_ne (by omega)).trans ((cset_ne (by omega)).trans (y9))))))))))
  have g10 : (((((((((((w11.setCell ⟨p, 0, none⟩ (.int .i64 v0)).setCell ⟨p, 1, none⟩ (.int .i64 v1)).setCell ⟨p, 2, none⟩ (.int .i64 v2)).setCell ⟨p, 3, none⟩ (.int .i64 v3)).setCell ⟨p, 4, none⟩ (.int .i64 v4)).setCell ⟨p, 5, none⟩ (.string v5)).setCell ⟨p, 6, none⟩ (.int .i64 v6)).setCell ⟨p, 7, none⟩ (.int .i64 v7)).setCell ⟨p, 8, none⟩ (.bool v8)).setCell ⟨p, 9, none⟩ (.int .i64 v9)).setCell ⟨p, 10, none⟩ (.string v10)).cell? ⟨p, 10, none⟩ = some (.string v10) := cset_at ((cset_ne (by omega)).trans ((cset_ne (by omega)).trans ((cset_ne (by omega)).trans ((cset_ne (by omega)).trans ((cset_ne (by omega)).trans ((cset_ne (by omega)).trans ((cset_ne (by omega)).trans ((cset_ne (by omega)).trans ((cset_ne (by omega)).trans ((cset_ne (by omega)).trans (y10)))))))))))
  have TS := Lib.hid (show Turn (fun k => k = p) w11 (((((((((((w11.setCell ⟨p, 0, none⟩ (.int .i64 v0)).setCell ⟨p, 1, none⟩ (.int .i64 v1)).setCell ⟨p, 2, none⟩ (.int .i64 v2)).setCell ⟨p, 3, none⟩ (.int .i64 v3)).setCell ⟨p, 4, none⟩ (.int .i64 v4)).setCell ⟨p, 5, none⟩ (.string v5)).setCell ⟨p, 6, none⟩ (.int .i64 v6)).setCell ⟨p, 7, none⟩ (.int .i64 v7)).setCell ⟨p, 8, none⟩ (.bool v8)).setCell ⟨p, 9, none⟩ (.int .i64 v9)).setCell ⟨p, 10, none⟩ (.string v10)) from (((((((((((Turn.setCell (F := fun k => k = p) rfl)).trans (Turn.setCell (F := fun k => k = p) rfl)).trans (Turn.setCell (F := fun k => k = p) rfl)).trans (Turn.setCell (F := fun k => k = p) rfl)).trans (Turn.setCell (F := fun k => k = p) rfl)).trans (Turn.setCell (F := fun k => k = p) rfl)).trans (Turn.setCell (F := fun k => k = p) rfl)).trans (Turn.setCell (F := fun k => k = p) rfl)).trans (Turn.setCell (F := fun k => k = p) rfl)).trans (Turn.setCell (F := fun k => k = p) rfl)).trans (Turn.setCell (F := fun k => k = p) rfl))
  have TT := Lib.hid (show Turn (fun k => k = r) w (((((((((((w11.setCell ⟨p, 0, none⟩ (.int .i64 v0)).setCell ⟨p, 1, none⟩ (.int .i64 v1)).setCell ⟨p, 2, none⟩ (.int .i64 v2)).setCell ⟨p, 3, none⟩ (.int .i64 v3)).setCell ⟨p, 4, none⟩ (.int .i64 v4)).setCell ⟨p, 5, none⟩ (.string v5)).setCell ⟨p, 6, none⟩ (.int .i64 v6)).setCell ⟨p, 7, none⟩ (.int .i64 v7)).setCell ⟨p, 8, none⟩ (.bool v8)).setCell ⟨p, 9, none⟩ (.int .i64 v9)).setCell ⟨p, 10, none⟩ (.string v10)) from by
    refine T11.out.trans' TS.out (fun i hi => Or.inr ?_)
    rw [HP.out, hi]; omega)
  have MM := Lib.hid (M11.out.fresh TS.out (fun e => by have := lr.out; omega) (fun h0 q o e => by have := AL.out h0 q o e; omega))
  clear q0 q1 q2 q3 q4 q5 q6 q7 q8 q9 q10 TS
  go_wp2_with fail
  exact bodyPost_ret (v := .agg #[.int .i64 v0, .int .i64 v1, .int .i64 v2, .int .i64 v3, .int .i64 v4, .string v5, .int .i64 v6, .int .i64 v7, .bool v8, .int .i64 v9, .string v10]) (by simp [results, go_sem, g0, g1, g2, g3, g4, g5, g6, g7, g8, g9, g10]) rfl ⟨rfl, MM.out, TT.out⟩
def gRep (bs : List Nat) (n : Nat) (s : RS) (ia : Option Addr) (m ic : Nat) : RepP := ⟨gNum bs n 4 s, gNum bs n 4 (rNum n 4 s), gNum bs n 4 (rNum n 4 (rNum n 4 s)), gNum bs n 4 (rNum n 4 (rNum n 4 (rNum n 4 s))), gNum bs n 4 (rNum n 4 (rNum n 4 (rNum n 4 (rNum n 4 s)))), gNum bs n 4 (rNum n 4 (rNum n 4 (rNum n 4 (rNum n 4 (rNum n 4 s))))), ia, m, ic, gItems bs n m (rNum n 1 (rNum n 4 (rNum n 4 (rNum n 4 (rNum n 4 (rNum n 4 (rNum n 4 s))))))), gFlag bs n (rItems bs n m (rNum n 1 (rNum n 4 (rNum n 4 (rNum n 4 (rNum n 4 (rNum n 4 (rNum n 4 s))))))))⟩
def mRep (bs : List Nat) (n : Nat) (s : RS) : Int := gNum bs n 1 (rNum n 4 (rNum n 4 (rNum n 4 (rNum n 4 (rNum n 4 (rNum n 4 s))))))
def rRep (bs : List Nat) (n : Nat) (s : RS) (m : Nat) : RS := rNum n 1 (rItems bs n m (rNum n 1 (rNum n 4 (rNum n 4 (rNum n 4 (rNum n 4 (rNum n 4 (rNum n 4 s))))))))
def RepR (r : Nat) (a : Option Addr) (n cap : Nat) (bs : List Nat) (s : RS) (w : World) (m : Nat) (e : Ending) (w' : World) : Prop :=
  ∃ (ia : Option Addr) (ic : Nat) (x : RepP), x = gRep bs n s ia m ic ∧ e = .returned (.agg #[.int .i64 x.slot, .int .i64 x.query, .int .i64 x.shard, .int .i64 x.seq, .int .i64 x.worker, .int .i64 x.epoch, .slice x.ia x.n x.ic, .bool x.fin]) ∧ HoldsK w' x.ia x.n x.items ∧ (x.ia = none → x.n = 0 ∧ x.ic = 0) ∧ x.n ≤ x.ic ∧ RdS r a n cap bs (rRep bs n s m) w' ∧ Turn (fun k => k = r) w w'
set_option maxHeartbeats 3200000 in
set_option maxRecDepth 100000 in
theorem rsReply (m : Nat) {r : Nat} {a : Option Addr} {n cap : Nat} {bs : List Nat} {s : RS} (w : World) (h : RdS r a n cap bs s w) (hm : mRep bs n s = (m : Int)) :
    Calls Try.prog 77 #[.pointer (some ⟨r, 0, none⟩)] w (RepR r a n cap bs s w m) := by
  have BX := Lib.hid (below_one w (.cells #[.int .i64 0, .int .i64 0, .int .i64 0, .int .i64 0, .int .i64 0, .int .i64 0, .slice none 0 0, .bool false] 32))
  obtain ⟨p, hp⟩ : ∃ p, w.heap.size = p := ⟨_, rfl⟩
  have XB := Lib.hid (show (w.alloc (.cells #[.int .i64 0, .int .i64 0, .int .i64 0, .int .i64 0, .int .i64 0, .int .i64 0, .slice none 0 0, .bool false] 32)).cell? ⟨w.heap.size, 0, none⟩ = some (.int .i64 0) ∧ (w.alloc (.cells #[.int .i64 0, .int .i64 0, .int .i64 0, .int .i64 0, .int .i64 0, .int .i64 0, .slice none 0 0, .bool false] 32)).cell? ⟨w.heap.size, 1, none⟩ = some (.int .i64 0) ∧ (w.alloc (.cells #[.int .i64 0, .int .i64 0, .int .i64 0, .int .i64 0, .int .i64 0, .int .i64 0, .slice none 0 0, .bool false] 32)).cell? ⟨w.heap.size, 2, none⟩ = some (.int .i64 0) ∧ (w.alloc (.cells #[.int .i64 0, .int .i64 0, .int .i64 0, .int .i64 0, .int .i64 0, .int .i64 0, .slice none 0 0, .bool false] 32)).cell? ⟨w.heap.size, 3, none⟩ = some (.int .i64 0) ∧ (w.alloc (.cells #[.int .i64 0, .int .i64 0, .int .i64 0, .int .i64 0, .int .i64 0, .int .i64 0, .slice none 0 0, .bool false] 32)).cell? ⟨w.heap.size, 4, none⟩ = some (.int .i64 0) ∧ (w.alloc (.cells #[.int .i64 0, .int .i64 0, .int .i64 0, .int .i64 0, .int .i64 0, .int .i64 0, .slice none 0 0, .bool false] 32)).cell? ⟨w.heap.size, 5, none⟩ = some (.int .i64 0) ∧ (w.alloc (.cells #[.int .i64 0, .int .i64 0, .int .i64 0, .int .i64 0, .int .i64 0, .int .i64 0, .slice none 0 0, .bool false] 32)).cell? ⟨w.heap.size, 6, none⟩ = some (.slice none 0 0) ∧ (w.alloc (.cells #[.int .i64 0, .int .i64 0, .int .i64 0, .int .i64 0, .int .i64 0, .int .i64 0, .slice none 0 0, .bool false] 32)).cell? ⟨w.heap.size, 7, none⟩ = some (.bool false) from ⟨by rw [World.cell?_alloc_mark]; rfl, by rw [World.cell?_alloc_mark]; rfl, by rw [World.cell?_alloc_mark]; rfl, by rw [World.cell?_alloc_mark]; rfl, by rw [World.cell?_alloc_mark]; rfl, by rw [World.cell?_alloc_mark]; rfl, by rw [World.cell?_alloc_mark]; rfl, by rw [World.cell?_alloc_mark]; rfl⟩)
  have XF := fun i => frozen_alloc (w := w) (cs := #[.int .i64 0, .int .i64 0, .int .i64 0, .int .i64 0, .int .i64 0, .int .i64 0, .slice none 0 0, .bool false]) (T := 32) (o := i) rfl
  obtain ⟨w1, hw1⟩ : ∃ w1, w.alloc (.cells #[.int .i64 0, .int .i64 0, .int .i64 0, .int .i64 0, .int .i64 0, .int .i64 0, .slice none 0 0, .bool false] 32) = w1 := ⟨_, rfl⟩
  have lr := Lib.hid (show r < p from by rw [← hp]; exact lt_of_cell h.m.c0)
  rw [hw1] at BX XB XF
  rw [hp] at XB XF
  have PL := Lib.hid (lt_of_cell XB.out.1)
  have XF0 := Lib.hid XF
  have TW := Lib.hid (show Turn (fun k => k = r) w w1 from Turn.of_below BX.out)
  have HP := Lib.hid hp
  have AL := Lib.hid (show 0 < n → ∀ q o, a = some ⟨q, o, none⟩ → q < p from hp ▸ fun h0 => h.lt h0)
  have M1 := Lib.hid (h.below BX.out)
  obtain ⟨v0, hv0⟩ : ∃ v, gNum bs n 4 s = v := ⟨_, rfl⟩
  obtain ⟨s1, hs1⟩ : ∃ s', rNum n 4 s = s' := ⟨_, rfl⟩
  have C0 := Lib.hid (fun w' (h' : RdS r a n cap bs s w') => rsNum 4 4 rfl (by omega) (by omega) w' h')
  rw [hv0, hs1] at C0
  obtain ⟨v1, hv1⟩ : ∃ v, gNum bs n 4 s1 = v := ⟨_, rfl⟩
  obtain ⟨s2, hs2⟩ : ∃ s', rNum n 4 s1 = s' := ⟨_, rfl⟩
  have C1 := Lib.hid (fun w' (h' : RdS r a n cap bs s1 w') => rsNum 4 4 rfl (by omega) (by omega) w' h')
  rw [hv1, hs2] at C1
  obtain ⟨v2, hv2⟩ : ∃ v, gNum bs n 4 s2 = v := ⟨_, rfl⟩
  obtain ⟨s3, hs3⟩ : ∃ s', rNum n 4 s2 = s' := ⟨_, rfl⟩
  have C2 := Lib.hid (fun w' (h' : RdS r a n cap bs s2 w') => rsNum 4 4 rfl (by omega) (by omega) w' h')
  rw [hv2, hs3] at C2
  obtain ⟨v3, hv3⟩ : ∃ v, gNum bs n 4 s3 = v := ⟨_, rfl⟩
  obtain ⟨s4, hs4⟩ : ∃ s', rNum n 4 s3 = s' := ⟨_, rfl⟩
  have C3 := Lib.hid (fun w' (h' : RdS r a n cap bs s3 w') => rsNum 4 4 rfl (by omega) (by omega) w' h')
  rw [hv3, hs4] at C3
  obtain ⟨v4, hv4⟩ : ∃ v, gNum bs n 4 s4 = v := ⟨_, rfl⟩
  obtain ⟨s5, hs5⟩ : ∃ s', rNum n 4 s4 = s' := ⟨_, rfl⟩
  have C4 := Lib.hid (fun w' (h' : RdS r a n cap bs s4 w') => rsNum 4 4 rfl (by omega) (by omega) w' h')
  rw [hv4, hs5] at C4
  obtain ⟨v5, hv5⟩ : ∃ v, gNum bs n 4 s5 = v := ⟨_, rfl⟩
  obtain ⟨s6, hs6⟩ : ∃ s', rNum n 4 s5 = s' := ⟨_, rfl⟩
  have C5 := Lib.hid (fun w' (h' : RdS r a n cap bs s5 w') => rsNum 4 4 rfl (by omega) (by omega) w' h')
  rw [hv5, hs6] at C5
  have HMM : gNum bs n 1 s6 = (m : Int) := by
    rw [← hm]; unfold mRep
    rw [hs1, hs2, hs3, hs4, hs5, hs6]
  have C6 := Lib.hid (fun w' (h' : RdS r a n cap bs s6 w') => rsItems m w' h' HMM)
  obtain ⟨ks, hks⟩ : ∃ ks, gItems bs n m (rNum n 1 s6) = ks := ⟨_, rfl⟩
  obtain ⟨s7, hs7⟩ : ∃ s', rItems bs n m (rNum n 1 s6) = s' := ⟨_, rfl⟩
  obtain ⟨vf, hvf⟩ : ∃ v, gFlag bs n s7 = v := ⟨_, rfl⟩
  obtain ⟨s8, hs8⟩ : ∃ s', rNum n 1 s7 = s' := ⟨_, rfl⟩
  have C7 := Lib.hid (fun w' (h' : RdS r a n cap bs s7 w') => rsFlag w' h')
  rw [hks, hs7] at C6
  rw [hvf, hs8] at C7
  have HV := Lib.hid (show ∀ ia ic, gRep bs n s ia m ic = ⟨v0, v1, v2, v3, v4, v5, ia, m, ic, ks, vf⟩ from fun ia ic => by
    unfold gRep
    rw [hv0, hs1, hv1, hs2, hv2, hs3, hv3, hs4, hv4, hs5, hv5, hs6, hks, hs7, hvf])
  have HS := Lib.hid (show rRep bs n s m = s8 from by
    unfold rRep
    rw [hs1, hs2, hs3, hs4, hs5, hs6, hs7, hs8])
  clear h XF HMM hm hks hs7 hvf hs8 hv0 hv1 hv2 hv3 hv4 hv5 hs1 hs2 hs3 hs4 hs5 hs6
  go_enter Try.func77, Try.ntmps77
  go_upto_region 1 with fail
  try rw [hw1]
  try simp only [hp]
  clear hw1 hp
  have T1 := Lib.hid TW.out
  have D0 := Lib.hid (C0.out w1 M1.out)
  clear C0
  go_wp2_with fail
  with_reducible refine D0.out.mono ?_
  rintro e w2 ⟨rfl, hm, ht⟩
  have M2 := Lib.hid hm
  have T2 := Lib.hid (T1.out.trans ht)
  have U2 := Lib.hid (show Turn (fun k => k = r) w1 w2 from ht)
  clear hm ht D0
  have D1 := Lib.hid (C1.out w2 M2.out)
  clear C1
  go_wp2_with fail
  with_reducible refine D1.out.mono ?_
  rintro e w3 ⟨rfl, hm, ht⟩
  have M3 := Lib.hid hm
  have T3 := Lib.hid (T2.out.trans ht)
  have U3 := Lib.hid (show Turn (fun k => k = r) w1 w3 from U2.out.trans ht)
  clear hm ht D1
  have D2 := Lib.hid (C2.out w3 M3.out)
  clear C2
  go_wp2_with fail
  with_reducible refine D2.out.mono ?_
  rintro e w4 ⟨rfl, hm, ht⟩
  have M4 := Lib.hid hm
  have T4 := Lib.hid (T3.out.trans ht)
  have U4 := Lib.hid (show Turn (fun k => k = r) w1 w4 from U3.out.trans ht)
  clear hm ht D2
  have D3 := Lib.hid (C3.out w4 M4.out)
  clear C3
  go_wp2_with fail
  with_reducible refine D3.out.mono ?_
  rintro e w5 ⟨rfl, hm, ht⟩
  have M5 := Lib.hid hm
  have T5 := Lib.hid (T4.out.trans ht)
  have U5 := Lib.hid (show Turn (fun k => k = r) w1 w5 from U4.out.trans ht)
  clear hm ht D3
  have D4 := Lib.hid (C4.out w5 M5.out)
  clear C4
  go_wp2_with fail
  with_reducible refine D4.out.mono ?_
  rintro e w6 ⟨rfl, hm, ht⟩
  have M6 := Lib.hid hm
  have T6 := Lib.hid (T5.out.trans ht)
  have U6 := Lib.hid (show Turn (fun k => k = r) w1 w6 from U5.out.trans ht)
  clear hm ht D4
  have D5 := Lib.hid (C5.out w6 M6.out)
  clear C5
  go_wp2_with fail
  with_reducible refine D5.out.mono ?_
  rintro e w7 ⟨rfl, hm, ht⟩
  have M7 := Lib.hid hm
  have T7 := Lib.hid (T6.out.trans ht)
  have U7 := Lib.hid (show Turn (fun k => k = r) w1 w7 from U6.out.trans ht)
  clear hm ht D5
  have D6 := Lib.hid (C6.out w7 M7.out)
  clear C6
  go_wp2_with fail
  with_reducible refine D6.out.mono ?_
  rintro e w8 ⟨ia, ic, rfl, hk, hn, hc, ho, hm, ht⟩
  have M8 := Lib.hid hm
  have T8 := Lib.hid (T7.out.trans ht)
  have U8 := Lib.hid (U7.out.trans ht)
  have K8 := Lib.hid hk
  have N8 := Lib.hid (And.intro hn hc)
  have G8 := Lib.hid (show ∀ q o, 0 < m → ia = some ⟨q, o, none⟩ → q ≠ r ∧ q ≠ p from fun q o h0 e => by
    obtain ⟨g, cp, hv⟩ := Joins.ownsRow_form ho h0
    simp only [Value.slice.injEq] at hv
    have h1 := (ho.lt g (by rw [hv.1]; rfl)).1
    have h2 := U7.out.size
    rw [e] at hv
    obtain ⟨e3, -, -⟩ := hv
    injection e3 with e3; injection e3 with e3 e4
    have h3 := PL.out
    have h4 := lr.out
    omega)
  clear hk hn hc ho hm ht D6
  have D7 := Lib.hid (C7.out w8 M8.out)
  clear C7
  go_wp2_with fail
  with_reducible refine D7.out.mono ?_
  rintro e w9 ⟨rfl, hm, ht⟩
  have M9 := Lib.hid hm
  have T9 := Lib.hid (T8.out.trans ht)
  have U9 := Lib.hid (U8.out.trans ht)
  have K9 := Lib.hid (holdsK_turn K8.out ht (fun q o h0 e => (G8.out q o h0 e).1))
  clear hm ht D7
  obtain ⟨q0, q1, q2, q3, q4, q5, q6, q7⟩ := XB.out
  have y0 := (U9.out.cell PL.out (fun e => by have := lr.out; omega)).trans q0
  have f0 := (U9.out.frozen (o := 0) PL.out (fun e => by have := lr.out; omega)).trans (XF0.out 0)
  have y1 := (U9.out.cell PL.out (fun e => by have := lr.out; omega)).trans q1
  have f1 := (U9.out.frozen (o := 1) PL.out (fun e => by have := lr.out; omega)).trans (XF0.out 1)
  have y2 := (U9.out.cell PL.out (fun e => by have := lr.out; omega)).trans q2
  have f2 := (U9.out.frozen (o := 2) PL.out (fun e => by have := lr.out; omega)).trans (XF0.out 2)
  have y3 := (U9.out.cell PL.out (fun e => by have := lr.out; omega)).trans q3
  have f3 := (U9.out.frozen (o := 3) PL.out (fun e => by have := lr.out; omega)).trans (XF0.out 3)
  have y4 := (U9.out.cell PL.out (fun e => by have := lr.out; omega)).trans q4
  have f4 := (U9.out.frozen (o := 4) PL.out (fun e => by have := lr.out; omega)).trans (XF0.out 4)
  have y5 := (U9.out.cell PL.out (fun e => by have := lr.out; omega)).trans q5
  have f5 := (U9.out.frozen (o := 5) PL.out (fun e => by have := lr.out; omega)).trans (XF0.out 5)
  have y6 := (U9.out.cell PL.out (fun e => by have := lr.out; omega)).trans q6
  have f6 := (U9.out.frozen (o := 6) PL.out (fun e => by have := lr.out; omega)).trans (XF0.out 6)
  have y7 := (U9.out.cell PL.out (fun e => by have := lr.out; omega)).trans q7
  have f7 := (U9.out.frozen (o := 7) PL.out (fun e => by have := lr.out; omega)).trans (XF0.out 7)
  have g0 : (w9.setCell ⟨p, 0, none⟩ (.int .i64 v0)).cell? ⟨p, 0, none⟩ = some (.int .i64 v0) := cset_at (y0)
  have g1 : ((w9.setCell ⟨p, 0, none⟩ (.int .i64 v0)).setCell ⟨p, 1, none⟩ (.int .i64 v1)).cell? ⟨p, 1, none⟩ = some (.int .i64 v1) := cset_at ((cset_ne (by omega)).trans (y1))
  have g2 : (((w9.setCell ⟨p, 0, none⟩ (.int .i64 v0)).setCell ⟨p, 1, none⟩ (.int .i64 v1)).setCell ⟨p, 2, none⟩ (.int .i64 v2)).cell? ⟨p, 2, none⟩ = some (.int .i64 v2) := cset_at ((cset_ne (by omega)).trans ((cset_ne (by omega)).trans (y2)))
  have g3 : ((((w9.setCell ⟨p, 0, none⟩ (.int .i64 v0)).setCell ⟨p, 1, none⟩ (.int .i64 v1)).setCell ⟨p, 2, none⟩ (.int .i64 v2)).setCell ⟨p, 3, none⟩ (.int .i64 v3)).cell? ⟨p, 3, none⟩ = some (.int .i64 v3) := cset_at ((cset_ne (by omega)).trans ((cset_ne (by omega)).trans ((cset_ne (by omega)).trans (y3))))
  have g4 : (((((w9.setCell ⟨p, 0, none⟩ (.int .i64 v0)).setCell ⟨p, 1, none⟩ (.int .i64 v1)).setCell ⟨p, 2, none⟩ (.int .i64 v2)).setCell ⟨p, 3, none⟩ (.int .i64 v3)).setCell ⟨p, 4, none⟩ (.int .i64 v4)).cell? ⟨p, 4, none⟩ = some (.int .i64 v4) := cset_at ((cset_ne (by omega)).trans ((cset_ne (by omega)).trans ((cset_ne (by omega)).trans ((cset_ne (by omega)).trans (y4)))))
  have g5 : ((((((w9.setCell ⟨p, 0, none⟩ (.int .i64 v0)).setCell ⟨p, 1, none⟩ (.int .i64 v1)).setCell ⟨p, 2, none⟩ (.int .i64 v2)).setCell ⟨p, 3, none⟩ (.int .i64 v3)).setCell ⟨p, 4, none⟩ (.int .i64 v4)).setCell ⟨p, 5, none⟩ (.int .i64 v5)).cell? ⟨p, 5, none⟩ = some (.int .i64 v5) := cset_at ((cset_ne (by omega)).trans ((cset_ne (by omega)).trans ((cset_ne (by omega)).trans ((cset_ne (by omega)).trans ((cset_ne (by omega)).trans (y5))))))
  have g6 : (((((((w9.setCell ⟨p, 0, none⟩ (.int .i64 v0)).setCell ⟨p, 1, none⟩ (.int .i64 v1)).setCell ⟨p, 2, none⟩ (.int .i64 v2)).setCell ⟨p, 3, none⟩ (.int .i64 v3)).setCell ⟨p, 4, none⟩ (.int .i64 v4)).setCell ⟨p, 5, none⟩ (.int .i64 v5)).setCell ⟨p, 6, none⟩ (.slice ia m ic)).cell? ⟨p, 6, none⟩ = some (.slice ia m ic) := cset_at ((cset_ne (by omega)).trans ((cset_ne (by omega)).trans ((cset_ne (by omega)).trans ((cset_ne (by omega)).trans ((cset_ne (by omega)).trans ((cset_ne (by omega)).trans (y6)))))))
  have g7 : ((((((((w9.setCell ⟨p, 0, none⟩ (.int .i64 v0)).setCell ⟨p, 1, none⟩ (.int .i64 v1)).setCell ⟨p, 2, none⟩ (.int .i64 v2)).setCell ⟨p, 3, none⟩ (.int .i64 v3)).setCell ⟨p, 4, none⟩ (.int .i64 v4)).setCell ⟨p, 5, none⟩ (.int .i64 v5)).setCell ⟨p, 6, none⟩ (.slice ia m ic)).setCell ⟨p, 7, none⟩ (.bool vf)).cell? ⟨p, 7, none⟩ = some (.bool vf) := cset_at ((cset_ne (by omega)).trans ((cset_ne (by omega)).trans ((cset_ne (by omega)).trans ((cset_ne (by omega)).trans ((cset_ne (by omega)).trans ((cset_ne (by omega)).trans ((cset_ne (by omega)).trans (y7))))))))
  have TS := Lib.hid (show Turn (fun k => k = p) w9 ((((((((w9.setCell ⟨p, 0, none⟩ (.int .i64 v0)).setCell ⟨p, 1, none⟩ (.int .i64 v1)).setCell ⟨p, 2, none⟩ (.int .i64 v2)).setCell ⟨p, 3, none⟩ (.int .i64 v3)).setCell ⟨p, 4, none⟩ (.int .i64 v4)).setCell ⟨p, 5, none⟩ (.int .i64 v5)).setCell ⟨p, 6, none⟩ (.slice ia m ic)).setCell ⟨p, 7, none⟩ (.bool vf)) from ((((((((Turn.setCell (F := fun k => k = p) rfl)).trans (Turn.setCell (F := fun k => k = p) rfl)).trans (Turn.setCell (F := fun k => k = p) rfl)).trans (Turn.setCell (F := fun k => k = p) rfl)).trans (Turn.setCell (F := fun k => k = p) rfl)).trans (Turn.setCell (F := fun k => k = p) rfl)).trans (Turn.setCell (F := fun k => k = p) rfl)).trans (Turn.setCell (F := fun k => k = p) rfl))
  have TT := Lib.hid (show Turn (fun k => k = r) w ((((((((w9.setCell ⟨p, 0, none⟩ (.int .i64 v0)).setCell ⟨p, 1, none⟩ (.int .i64 v1)).setCell ⟨p, 2, none⟩ (.int .i64 v2)).setCell ⟨p, 3, none⟩ (.int .i64 v3)).setCell ⟨p, 4, none⟩ (.int .i64 v4)).setCell ⟨p, 5, none⟩ (.int .i64 v5)).setCell ⟨p, 6, none⟩ (.slice ia m ic)).setCell ⟨p, 7, none⟩ (.bool vf)) from by
    refine T9.out.trans' TS.out (fun i hi => Or.inr ?_)
    rw [HP.out, hi]; omega)
  have MM := Lib.hid (M9.out.fresh TS.out (fun e => by have := lr.out; omega) (fun h0 q o e => by have := AL.out h0 q o e; omega))
  have KK := Lib.hid (holdsK_turn K9.out TS.out (fun q o h0 e => (G8.out q o h0 e).2))
  clear q0 q1 q2 q3 q4 q5 q6 q7 TS
  go_wp2_with fail
  refine bodyPost_ret (v := .agg #[.int .i64 v0, .int .i64 v1, .int .i64 v2, .int .i64 v3, .int .i64 v4, .int .i64 v5, .slice ia m ic, .bool vf]) (by simp [results, go_sem, g0, g1, g2, g3, g4, g5, g6, g7]) rfl ⟨ia, ic, ⟨v0, v1, v2, v3, v4, v5, ia, m, ic, ks, vf⟩, (HV.out ia ic).symm, rfl, KK.out, N8.out.1, N8.out.2, by rw [HS.out]; exact MM.out, TT.out⟩
end Go.Proofs.Ythboiklcjpnhbaa
/- msg: read -/
namespace Go.Proofs.Ythboiklcjpnhbaa
open Go.RowKit
set_option linter.unusedVariables false
set_option maxRecDepth 20000
def rs0 : RS := ⟨0, false⟩
def kdR (bs : List Nat) (n : Nat) : Int := gNum bs n 1 rs0
def rs1 (n : Nat) : RS := rNum n 1 rs0
/-- what bytes tell: a message -/
def GotM (bs : List Nat) (n : Nat) (M : MsgV) : Prop :=
  if kdR bs n = 1 then M = .hello (gNum bs n 4 (rs1 n)) (gNum bs n 4 (rNum n 4 (rs1 n)))
  else if kdR bs n = 2 then M = .grant (gNum bs n 4 (rs1 n)) (gNum bs n 4 (rNum n 4 (rs1 n))) (gNum bs n 4 (rNum n 4 (rNum n 4 (rs1 n))))
  else if kdR bs n = 3 then M = .ask (gAsk bs n (rs1 n))
  else if kdR bs n = 4 then ∃ (ia : Option Addr) (m ic : Nat), mRep bs n (rs1 n) = (m : Int) ∧ M = .reply (gRep bs n (rs1 n) ia m ic)
  else if kdR bs n = 5 then M = .stop (gNum bs n 4 (rs1 n)) (gNum bs n 4 (rNum n 4 (rs1 n)))
  else M = .none
def ReadM (w : World) (bs : List Nat) (n : Nat) (e : Ending) (w' : World) : Prop := ∃ M, e = .returned (valM M) ∧ heldM w' M ∧ GotM bs n M ∧ Below w.heap.size w w'
theorem turn_new {w w1 w2 : World} {r : Nat} (hb : Below w.heap.size w w1) (t : Turn (fun k => k = r) w1 w2) (hr : w.heap.size ≤ r) : Below w.heap.size w w2 := hb.trans (t.below (fun k hk => by omega) hb.size)
set_option maxHeartbeats 6400000 in
set_option maxRecDepth 100000 in
theorem mread_any (a : Option Addr) (n cap : Nat) (bs : List Nat) (w : World) (h : HoldsB w a n bs) (h0 : 0 < n) (hn : n ≤ 100000) (hc : n ≤ cap) :
    Calls Try.prog 47 #[.slice a n cap] w (ReadM w bs n) := by
  have CR := Lib.hid (rdRead_any a n cap bs w h (fun q o e => by
    obtain ⟨q2, o2, e2, hcc⟩ := h.at h0
    rw [e] at e2
    injection e2 with e2; injection e2 with e2 e3; subst e2; subst e3
    exact lt_of_cell (hcc 0 h0)))
  obtain ⟨kd, hkd⟩ : ∃ k, kdR bs n = k := ⟨_, rfl⟩
  have HKD := Lib.hid hkd
  have C0 := Lib.hid (fun r w' (h' : RdS r a n cap bs rs0 w') => rsNum 1 1 rfl (by omega) (by omega) w' h')
  unfold kdR at hkd
  rw [hkd] at C0
  obtain ⟨s1, hs1⟩ : ∃ s, rNum n 1 rs0 = s := ⟨_, rfl⟩
  have HS1 := Lib.hid (show rs1 n = s1 from hs1)
  rw [hs1] at C0
  have NC := Lib.hid (And.intro hn hc)
  clear h hkd hs1 h0 hc
  go_enter Try.func47, Try.ntmps47
  go_wp2_with fail
  with_reducible refine CR.out.mono ?_
  rintro e w1 ⟨rfl, hm, hb, hz⟩
  obtain ⟨r, hr⟩ : ∃ r, w.heap.size = r := ⟨_, rfl⟩
  have HR := Lib.hid (show w.heap.size ≤ r from by omega)
  rw [hr] at hm
  have B1 := Lib.hid hb
  have M1 := Lib.hid (show RdS r a n cap bs rs0 w1 from ⟨hm, Nat.zero_le _, NC.out.1, NC.out.2⟩)
  rw [hr]
  clear hm hb hz hr CR
  have D0 := Lib.hid (C0.out r w1 M1.out)
  clear C0
  go_wp2_with fail
  with_reducible refine D0.out.mono ?_
  rintro e w2 ⟨rfl, hm, ht⟩
  have M2 := Lib.hid hm
  have B2 := Lib.hid (turn_new B1.out ht HR.out)
  clear hm ht D0 M1 B1
  by_cases h1 : kd = 1
  · have e1 : (kd == 1) = true := by simpa using h1
    obtain ⟨v0, hv0⟩ : ∃ v, gNum bs n 4 s1 = v := ⟨_, rfl⟩
    obtain ⟨t0, ht0⟩ : ∃ s, rNum n 4 s1 = s := ⟨_, rfl⟩
    have C0 := Lib.hid (fun w' (h' : RdS r a n cap bs s1 w') => rsNum 4 4 rfl (by omega) (by omega) w' h')
    rw [hv0, ht0] at C0
    obtain ⟨v1, hv1⟩ : ∃ v, gNum bs n 4 t0 = v := ⟨_, rfl⟩
    obtain ⟨t1, ht1⟩ : ∃ s, rNum n 4 t0 = s := ⟨_, rfl⟩
    have C1 := Lib.hid (fun w' (h' : RdS r a n cap bs t0 w') => rsNum 4 4 rfl (by omega) (by omega) w' h')
    rw [hv1, ht1] at C1
    have GG := Lib.hid (show GotM bs n (.hello v0 v1) from by
      unfold GotM
      rw [if_pos (show kdR bs n = 1 by rw [HKD.out]; exact h1), HS1.out, hv0, ht0, hv1])
    clear hv0 ht0 hv1 ht1 h1
    have D0 := Lib.hid (C0.out w2 M2.out)
    clear C0
    go_wp2_with fail
    with_reducible refine D0.out.mono ?_
    rintro e w3 ⟨rfl, hm, ht⟩
    have M3 := Lib.hid hm
    have B3 := Lib.hid (turn_new B2.out ht HR.out)
    clear hm ht D0
    have D1 := Lib.hid (C1.out w3 M3.out)
    clear C1
    go_wp2_with fail
    with_reducible refine D1.out.mono ?_
    rintro e w4 ⟨rfl, hm, ht⟩
    have M4 := Lib.hid hm
    have B4 := Lib.hid (turn_new B3.out ht HR.out)
    clear hm ht D1
    go_wp2_with fail
    go_ret
    exact ⟨.hello v0 v1, rfl, trivial, GG.out, B4.out⟩
  have e1 : (kd == 1) = false := by simpa using h1
  by_cases h2 : kd = 2
  · have e2 : (kd == 2) = true := by simpa using h2
    obtain ⟨v0, hv0⟩ : ∃ v, gNum bs n 4 s1 = v := ⟨_, rfl⟩
    obtain ⟨t0, ht0⟩ : ∃ s, rNum n 4 s1 = s := ⟨_, rfl⟩
    have C0 := Lib.hid (fun w' (h' : RdS r a n cap bs s1 w') => rsNum 4 4 rfl (by omega) (by omega) w' h')
    rw [hv0, ht0] at C0
    obtain ⟨v1, hv1⟩ : ∃ v, gNum bs n 4 t0 = v := ⟨_, rfl⟩
    obtain ⟨t1, ht1⟩ : ∃ s, rNum n 4 t0 = s := ⟨_, rfl⟩
    have C1 := Lib.hid (fun w' (h' : RdS r a n cap bs t0 w') => rsNum 4 4 rfl (by omega) (by omega) w' h')
    rw [hv1, ht1] at C1
    obtain ⟨v2, hv2⟩ : ∃ v, gNum bs n 4 t1 = v := ⟨_, rfl⟩
    obtain ⟨t2, ht2⟩ : ∃ s, rNum n 4 t1 = s := ⟨_, rfl⟩
    have C2 := Lib.hid (fun w' (h' : RdS r a n cap bs t1 w') => rsNum 4 4 rfl (by omega) (by omega) w' h')
    rw [hv2, ht2] at C2
    have GG := Lib.hid (show GotM bs n (.grant v0 v1 v2) from by
      unfold GotM
      rw [if_neg (show ¬ kdR bs n = 1 by rw [HKD.out]; omega), if_pos (show kdR bs n = 2 by rw [HKD.out]; exact h2), HS1.out, hv0, ht0, hv1, ht1, hv2])
    clear hv0 ht0 hv1 ht1 hv2 ht2 h2
    have D0 := Lib.hid (C0.out w2 M2.out)
    clear C0
    go_wp2_with fail
    with_reducible refine D0.out.mono ?_
    rintro e w3 ⟨rfl, hm, ht⟩
    have M3 := Lib.hid hm
    have B3 := Lib.hid (turn_new B2.out ht HR.out)
    clear hm ht D0
    have D1 := Lib.hid (C1.out w3 M3.out)
    clear C1
    go_wp2_with fail
    with_reducible refine D1.out.mono ?_
    rintro e w4 ⟨rfl, hm, ht⟩
    have M4 := Lib.hid hm
    have B4 := Lib.hid (turn_new B3.out ht HR.out)
    clear hm ht D1
    have D2 := Lib.hid (C2.out w4 M4.out)
    clear C2
    go_wp2_with fail
    with_reducible refine D2.out.mono ?_
    rintro e w5 ⟨rfl, hm, ht⟩
    have M5 := Lib.hid hm
    have B5 := Lib.hid (turn_new B4.out ht HR.out)
    clear hm ht D2
    go_wp2_with fail
    go_ret
    exact ⟨.grant v0 v1 v2, rfl, trivial, GG.out, B5.out⟩
  have e2 : (kd == 2) = false := by simpa using h2
  by_cases h3 : kd = 3
  · have e3 : (kd == 3) = true := by simpa using h3
    have CA := Lib.hid (rsAsk w2 M2.out)
    obtain ⟨x, hx⟩ : ∃ x, gAsk bs n s1 = x := ⟨_, rfl⟩
    rw [hx] at CA
    have GG := Lib.hid (show GotM bs n (.ask x) from by
      unfold GotM
      rw [if_neg (show ¬ kdR bs n = 1 by rw [HKD.out]; omega), if_neg (show ¬ kdR bs n = 2 by rw [HKD.out]; omega), if_pos (show kdR bs n = 3 by rw [HKD.out]; exact h3), HS1.out, hx])
    clear hx h3
    go_wp2_with fail
    with_reducible refine CA.out.mono ?_
    rintro e w3 ⟨rfl, hm, ht⟩
    have B3 := Lib.hid (turn_new B2.out ht HR.out)
    clear hm ht CA
    go_wp2_with fail
    go_ret
    exact ⟨.ask x, rfl, trivial, GG.out, B3.out⟩
  have e3 : (kd == 3) = false := by simpa using h3
  by_cases h4 : kd = 4
  · have e4 : (kd == 4) = true := by simpa using h4
    obtain ⟨m, hm2⟩ : ∃ m : Nat, mRep bs n s1 = (m : Int) := ⟨_, rfl⟩
    have CA := Lib.hid (rsReply m w2 M2.out hm2)
    have GG := Lib.hid (show ∀ ia ic x, x = gRep bs n s1 ia m ic → GotM bs n (.reply x) from fun ia ic x hx => by
      unfold GotM
      rw [if_neg (show ¬ kdR bs n = 1 by rw [HKD.out]; omega), if_neg (show ¬ kdR bs n = 2 by rw [HKD.out]; omega), if_neg (show ¬ kdR bs n = 3 by rw [HKD.out]; omega), if_pos (show kdR bs n = 4 by rw [HKD.out]; exact h4), HS1.out]
      exact ⟨ia, m, ic, hm2, by rw [hx]⟩)
    clear hm2 h4
    go_wp2_with fail
    with_reducible refine CA.out.mono ?_
    rintro e w3 ⟨ia, ic, x, hx, rfl, hk, hn1, hn2, hm, ht⟩
    have B3 := Lib.hid (turn_new B2.out ht HR.out)
    have G3 := Lib.hid (GG.out ia ic x hx)
    have H3 := Lib.hid (show heldM w3 (.reply x) from ⟨hk, hn1, hn2⟩)
    clear hm ht CA hx hk hn1 hn2
    go_wp2_with fail
    go_ret
    exact ⟨.reply x, rfl, H3.out, G3.out, B3.out⟩
  have e4 : (kd == 4) = false := by simpa using h4
  by_cases h5 : kd = 5
  · have e5 : (kd == 5) = true := by simpa using h5
    obtain ⟨v0, hv0⟩ : ∃ v, gNum bs n 4 s1 = v := ⟨_, rfl⟩
    obtain ⟨t0, ht0⟩ : ∃ s, rNum n 4 s1 = s := ⟨_, rfl⟩
    have C0 := Lib.hid (fun w' (h' : RdS r a n cap bs s1 w') => rsNum 4 4 rfl (by omega) (by omega) w' h')
    rw [hv0, ht0] at C0
    obtain ⟨v1, hv1⟩ : ∃ v, gNum bs n 4 t0 = v := ⟨_, rfl⟩
    obtain ⟨t1, ht1⟩ : ∃ s, rNum n 4 t0 = s := ⟨_, rfl⟩
    have C1 := Lib.hid (fun w' (h' : RdS r a n cap bs t0 w') => rsNum 4 4 rfl (by omega) (by omega) w' h')
    rw [hv1, ht1] at C1
    have GG := Lib.hid (show GotM bs n (.stop v0 v1) from by
      unfold GotM
      rw [if_neg (show ¬ kdR bs n = 1 by rw [HKD.out]; omega), if_neg (show ¬ kdR bs n = 2 by rw [HKD.out]; omega), if_neg (show ¬ kdR bs n = 3 by rw [HKD.out]; omega), if_neg (show ¬ kdR bs n = 4 by rw [HKD.out]; omega), if_pos (show kdR bs n = 5 by rw [HKD.out]; exact h5), HS1.out, hv0, ht0, hv1])
    clear hv0 ht0 hv1 ht1 h5
    have D0 := Lib.hid (C0.out w2 M2.out)
    clear C0
    go_wp2_with fail
    with_reducible refine D0.out.mono ?_
    rintro e w3 ⟨rfl, hm, ht⟩
    have M3 := Lib.hid hm
    have B3 := Lib.hid (turn_new B2.out ht HR.out)
    clear hm ht D0
    have D1 := Lib.hid (C1.out w3 M3.out)
    clear C1
    go_wp2_with fail
    with_reducible refine D1.out.mono ?_
    rintro e w4 ⟨rfl, hm, ht⟩
    have M4 := Lib.hid hm
    have B4 := Lib.hid (turn_new B3.out ht HR.out)
    clear hm ht D1
    go_wp2_with fail
    go_ret
    exact ⟨.stop v0 v1, rfl, trivial, GG.out, B4.out⟩
  have e5 : (kd == 5) = false := by simpa using h5
  have GG := Lib.hid (show GotM bs n .none from by
    unfold GotM
    rw [if_neg (show ¬ kdR bs n = 1 by rw [HKD.out]; omega), if_neg (show ¬ kdR bs n = 2 by rw [HKD.out]; omega), if_neg (show ¬ kdR bs n = 3 by rw [HKD.out]; omega), if_neg (show ¬ kdR bs n = 4 by rw [HKD.out]; omega), if_neg (show ¬ kdR bs n = 5 by rw [HKD.out]; omega)])
  clear h1 h2 h3 h4 h5
  go_wp2_with fail
  go_ret
  exact ⟨.none, rfl, trivial, GG.out, B2.out⟩
end Go.Proofs.Ythboiklcjpnhbaa
/- pack: bytes alike, bytes that begin with others -/
namespace Go.Proofs.Ythboiklcjpnhbaa
open Go.RowKit
set_option linter.unusedVariables false
set_option maxRecDepth 20000
theorem strN_inj {x y : List Nat} (hx : ∀ b ∈ x, b < 256) (hy : ∀ b ∈ y, b < 256) : strN x = strN y ↔ x = y := by
  refine ⟨fun h => ?_, fun h => by rw [h]⟩
  have key : ∀ l : List Nat, (∀ b ∈ l, b < 256) → ((strN l).data.toList.map UInt8.toNat) = l := fun l hl => by
    unfold strN
    rw [strOfNums_data, List.map_map, List.map_map]
    refine (List.map_congr_left fun b hb => ?_).trans (List.map_id l)
    have := hl b hb
    simp
    omega
  rw [← key x hx, ← key y hy, h]
theorem bEqual_any (a1 a2 : Option Addr) (n1 c1 n2 c2 : Nat) (x y : List Nat) (w : World) (h1 : HoldsB w a1 n1 x) (h2 : HoldsB w a2 n2 y) :
    Calls Try.prog 48 #[.slice a1 n1 c1, .slice a2 n2 c2] w fun e w' => e = .returned (.bool (decide (x = y))) ∧ w = w' := by
  have r1 := run_conv_bytes w 39 5 9 Try.underlying39 Try.underlying5 Try.underlying9 a1 n1 c1 x h1
  have r2 := run_conv_bytes w 39 5 9 Try.underlying39 Try.underlying5 Try.underlying9 a2 n2 c2 y h2
  have E := Lib.hid (strN_inj h1.2 h2.2)
  clear h1 h2
  by_cases he : x = y
  · subst he
    rw [decide_eq_true rfl]
    have e1 : ((strN x).toList == (strN x).toList) = true := by simp
    go_enter Try.func48, Try.ntmps48
    go_wp2_with fail
    go_ret
    exact ⟨rfl, rfl⟩
  · rw [decide_eq_false he]
    have e1 : ((strN x).toList == (strN y).toList) = false := by
      rw [beq_eq_false_iff_ne]; exact fun h => he (E.out.1 (toList_inj h))
    clear he
    go_enter Try.func48, Try.ntmps48
    go_wp2_with fail
    go_ret
    exact ⟨rfl, rfl⟩
end Go.Proofs.Ythboiklcjpnhbaa
/- msg: Decode -/
namespace Go.Proofs.Ythboiklcjpnhbaa
open Go.RowKit
set_option linter.unusedVariables false
set_option maxRecDepth 20000
def shapeB (bs : List Nat) (n : Nat) : Bool := decide (7 ≤ n) && decide (n ≤ 1024) && decide (numN bs 0 2 = n)
def inner (bs : List Nat) (n : Nat) : List Nat := (bs.take (n - 4)).drop 2
theorem numN_lt2 (bs : List Nat) (hb : ∀ b ∈ bs, b < 256) (hk : 2 ≤ bs.length) : numN bs 0 2 < 65536 := numN_lt bs 0 2 hb (by omega)
/-- what Decode makes of bytes -/
def DecM (w : World) (bs : List Nat) (n : Nat) (e : Ending) (w' : World) : Prop :=
  Below w.heap.size w w' ∧
  ((shapeB bs n = false ∧ e = .returned (.tuple #[.nilIface, .int .i64 8])) ∨
   (shapeB bs n = true ∧ openB bs = false ∧ e = .returned (.tuple #[.nilIface, .int .i64 9])) ∨
   (shapeB bs n = true ∧ openB bs = true ∧ ∃ M, GotM (inner bs n) (n - 6) M ∧ heldM w' M ∧ smallM M ∧
     ((mayM M = true ∧ frameM M = bs ∧ e = .returned (.tuple #[valM M, .int .i64 0])) ∨ (¬ (mayM M = true ∧ frameM M = bs) ∧ e = .returned (.tuple #[.nilIface, .int .i64 8])))))
theorem strN_size (l : List Nat) : (strN l).size = l.length := by
  show (strN l).data.size = _
  rw [← Array.length_toList]
  unfold strN
  rw [strOfNums_data]
  simp
theorem gText_size (bs : List Nat) (n : Nat) (s : RS) (hl : bs.length ≤ 1100) : (gText bs n s).size ≤ 1100 := by
  unfold gText
  split
  · rw [strN_size]
    unfold textN
    rw [List.length_drop, List.length_take]
    omega
  · show 0 ≤ 1100; omega
theorem gItems_small (bs : List Nat) (n : Nat) (s : RS) (hl : bs.length ≤ 1100) : ∀ k, ∀ x ∈ gItems bs n k s, x.2.size ≤ 1100
  | 0, x, h => by cases h
  | k + 1, x, h => by
    rcases List.mem_append.1 h with h | h
    · exact gItems_small bs n s hl k x h
    · simp at h; subst h; exact gText_size bs n _ hl
theorem GotM.small {bs : List Nat} {n : Nat} {M : MsgV} (h : GotM bs n M) (hl : bs.length ≤ 1100) (hlt : ∀ b ∈ bs, b < 256) (hn : bs.length = n) : smallM M := by
  unfold GotM at h
  split at h
  · subst h; trivial
  split at h
  · subst h; trivial
  split at h
  · subst h
    exact ⟨gText_size bs n _ hl, gText_size bs n _ hl⟩
  split at h
  · obtain ⟨ia, m, ic, hm, rfl⟩ := h
    refine ⟨gItems_small bs n _ hl m, ?_⟩
    show m ≤ 1048576
    have h1 := numR_lt bs n ((rNum n 4 (rNum n 4 (rNum n 4 (rNum n 4 (rNum n 4 (rNum n 4 (rs1 n)))))))).k 1 ((rNum n 4 (rNum n 4 (rNum n 4 (rNum n 4 (rNum n 4 (rNum n 4 (rs1 n)))))))).bad hlt hn
    unfold mRep gNum at hm
    have : (256 : Nat) ^ 1 = 256 := by decide
    omega
  split at h
  · subst h; trivial
  · subst h; trivial
set_option maxHeartbeats 6400000 in
theorem decode_any (a : Option Addr) (n cap : Nat) (bs : List Nat) (w : World) (h : HoldsB w a n bs) (hn : n ≤ 1048576) (hc : n ≤ cap) :
    Calls Try.prog 25 #[.slice a n cap] w (DecM w bs n) := by
  have hl := h.len
  by_cases h2 : 2 ≤ n
  · have CN := Lib.hid (num_yes a n cap bs 0 2 w h (by omega) (by omega) (by omega) (by omega))
    have hx := numN_lt2 bs h.2 (by omega)
    obtain ⟨x, hxx⟩ : ∃ x, numN bs 0 2 = x := ⟨_, rfl⟩
    rw [hxx, wrap_small x (by omega), show ((2 : Nat) : Int) = 2 from rfl, show ((0 : Nat) : Int) = 0 from rfl] at CN
    rw [hxx] at hx
    have SH := Lib.hid (show shapeB bs n = (decide (7 ≤ n) && decide (n ≤ 1024) && decide (x = n)) from by unfold shapeB; rw [hxx])
    by_cases hs : 7 ≤ n ∧ n ≤ 1024 ∧ x = n
    · obtain ⟨h7, h1024, rfl⟩ := hs
      have ST := Lib.hid (show shapeB bs x = true from by rw [SH.out]; simp [h7, h1024])
      have d1 : decide ((x : Int) < 7) = false := decide_eq_false (by omega)
      have d2 : decide ((x : Int) > 1024) = false := decide_eq_false (by omega)
      have d1' : decide (x < 7) = false := decide_eq_false (by omega)
      have d2' : decide (1024 < x) = false := decide_eq_false (by omega)
      have d3 : ((x : Int) != (x : Int)) = false := by simp
      have CS := Lib.hid (wSealed_any a x cap bs w h hn hc)
      cases ho : openB bs
      · simp only [ho, Bool.false_eq_true, if_false] at CS
        have FF := Lib.hid (show DecM w bs x (.returned (.tuple #[.nilIface, .int .i64 9])) w from ⟨Below.refl _ _, Or.inr (Or.inl ⟨ST.out, ho, rfl⟩)⟩)
        clear h ho hl hxx hx
        go_enter Try.func25, Try.ntmps25
        go_wp2_with fail
        refine CN.out.mono ?_
        rintro e w' ⟨rfl, rfl⟩
        go_wp2_with fail
        refine CS.out.mono ?_
        rintro e w' ⟨rfl, rfl⟩
        go_wp2_with fail
        go_ret2
        exact FF.out
      · simp only [ho, if_true] at CS
        have HO := Lib.hid ho
        obtain ⟨b, o, rfl, hcc⟩ := h.at (by omega)
        obtain ⟨k, hk⟩ : ∃ k, x - 4 = k := ⟨_, rfl⟩
        obtain ⟨k2, hk2⟩ : ∃ k, x - 6 = k := ⟨_, rfl⟩
        have IH : HoldsB w (some ⟨b, o + 2, none⟩) k2 (inner bs x) := by
          unfold inner
          rw [hk]
          have := h.part 2 k (by omega) (by omega) k2 (by omega)
          exact this
        have LT := Lib.hid h.2
        have IL := Lib.hid IH.len
        have ILT := Lib.hid IH.2
        have CR := Lib.hid (mread_any (some ⟨b, o + 2, none⟩) k2 (cap - 2) (inner bs x) w IH (by omega) (by omega) (by omega))
        have HB := Lib.hid h
        rw [hk] at CS
        have HK2 := Lib.hid hk2
        have c2 : k - 2 = k2 := by omega
        have n1 : (2 : Int) ≤ (k : Int) := by omega
        have n2 : 2 ≤ k := by omega
        have n3 : (k : Int) ≤ (cap : Int) := by omega
        have n4 : k ≤ cap := by omega
        have n5 : 2 < cap := by omega
        have n6 : ¬ cap = 2 := by omega
        have K2 := Lib.hid (show k2 ≤ 1018 from by omega)
        clear h ho hl hxx hx hcc IH hk hk2
        go_enter Try.func25, Try.ntmps25
        go_wp2_with fail
        refine CN.out.mono ?_
        rintro e w' ⟨rfl, rfl⟩
        go_wp2_with fail
        refine CS.out.mono ?_
        rintro e w' ⟨rfl, rfl⟩
        go_wp2_with fail
        with_reducible refine CR.out.mono ?_
        rintro e w1 ⟨M, rfl, hH, hG, hb⟩
        have SM := Lib.hid (hG.small (by rw [IL.out]; have := K2.out; omega) ILT.out IL.out)
        have GM := Lib.hid hG; have HM := Lib.hid hH; have B1 := Lib.hid hb
        have CV := Lib.hid (valid_all M w1 hH SM.out)
        obtain ⟨V, hV⟩ : ∃ V, valM M = V := ⟨_, rfl⟩
        have HV := Lib.hid hV
        rw [hV] at CV
        clear hG hH hb CR CN CS
        cases hm : mayM M
        · rw [hm] at CV
          rw [hV]
          have MN := Lib.hid hm
          clear hm hV
          go_wp2_with fail
          refine CV.out.mono ?_
          rintro e w2 ⟨rfl, hb⟩
          have B2 := Lib.hid (B1.out.trans (hb.mono B1.out.size))
          have FF := Lib.hid (show DecM w bs x (.returned (.tuple #[.nilIface, .int .i64 8])) w2 from ⟨B2.out, Or.inr (Or.inr ⟨ST.out, HO.out, M, by rw [HK2.out]; exact GM.out, HM.out.below hb, SM.out, Or.inr ⟨(fun h => by rw [MN.out] at h; cases h.1), rfl⟩⟩)⟩)
          clear hb CV
          go_wp2_with fail
          go_ret2
          exact FF.out
        · rw [hm] at CV
          have CF := Lib.hid (fun w' (hb : Below w1.heap.size w1 w') => frame_all M w' (HM.out.below hb) SM.out hm)
          rw [hV] at CF ⊢
          have MY := Lib.hid hm
          obtain ⟨F, hF⟩ : ∃ F, frameM M = F := ⟨_, rfl⟩
          have HF := Lib.hid hF
          rw [hF] at CF
          have FL := Lib.hid (show ∀ b ∈ F, b < 256 from hF ▸ frameM_lt M)
          clear hm hV hF
          go_wp2_with fail
          refine CV.out.mono ?_
          rintro e w2 ⟨rfl, hb⟩
          have B2 := Lib.hid (B1.out.trans (hb.mono B1.out.size))
          have H2 := Lib.hid (HM.out.below hb)
          have CF2 := Lib.hid (CF.out w2 hb)
          clear hb CV CF
          go_wp2_with fail
          refine CF2.out.mono ?_
          rintro e w3 ⟨a3, c3, rfl, r1, r2, r3⟩
          have B3 := Lib.hid (B2.out.trans (r2.mono B2.out.size))
          have H3 := Lib.hid (H2.out.below r2)
          have CE := Lib.hid (bEqual_any a3 (some ⟨b, o, none⟩) F.length c3 x cap F bs w3 (holdsB_of_values (owns_holds r1) FL.out) (HB.out.below B3.out))
          clear r1 r2 r3 CF2
          by_cases he : F = bs
          · rw [decide_eq_true he] at CE
            have FF := Lib.hid (show DecM w bs x (.returned (.tuple #[V, .int .i64 0])) w3 from ⟨B3.out, Or.inr (Or.inr ⟨ST.out, HO.out, M, by rw [HK2.out]; exact GM.out, H3.out, SM.out, Or.inl ⟨MY.out, HF.out.trans he, by rw [HV.out]⟩⟩)⟩)
            clear he
            go_wp2_with fail
            refine CE.out.mono ?_
            rintro e w' ⟨rfl, rfl⟩
            go_wp2_with fail
            go_ret2
            exact FF.out
          · rw [decide_eq_false he] at CE
            have FF := Lib.hid (show DecM w bs x (.returned (.tuple #[.nilIface, .int .i64 8])) w3 from ⟨B3.out, Or.inr (Or.inr ⟨ST.out, HO.out, M, by rw [HK2.out]; exact GM.out, H3.out, SM.out, Or.inr ⟨fun h => he (HF.out.symm.trans h.2), rfl⟩⟩)⟩)
            clear he
            go_wp2_with fail
            refine CE.out.mono ?_
            rintro e w' ⟨rfl, rfl⟩
            go_wp2_with fail
            go_ret2
            exact FF.out
    · have SF := Lib.hid (show shapeB bs n = false from by
        rw [SH.out]
        by_cases h7 : 7 ≤ n
        · by_cases h1 : n ≤ 1024
          · have : ¬ x = n := fun h => hs ⟨h7, h1, h⟩
            simp [this]
          · simp [h1]
        · simp [h7])
      have FF := Lib.hid (show DecM w bs n (.returned (.tuple #[.nilIface, .int .i64 8])) w from ⟨Below.refl _ _, Or.inl ⟨SF.out, rfl⟩⟩)
      by_cases h7 : 7 ≤ n
      · have d1 : decide ((n : Int) < 7) = false := decide_eq_false (by omega)
        have d1' : decide (n < 7) = false := decide_eq_false (by omega)
        by_cases h1 : n ≤ 1024
        · have d2 : decide ((n : Int) > 1024) = false := decide_eq_false (by omega)
          have d2' : decide (1024 < n) = false := decide_eq_false (by omega)
          have hne : ¬ x = n := fun h => hs ⟨h7, h1, h⟩
          have d3 : ((x : Int) != (n : Int)) = true := by rw [bne_iff_ne]; omega
          have d4 : ((x : Int) == (n : Int)) = false := by rw [beq_eq_false_iff_ne]; omega
          clear h hl hxx hx hs hne h2 h7 h1
          go_enter Try.func25, Try.ntmps25
          go_wp2_with fail
          refine CN.out.mono ?_
          rintro e w' ⟨rfl, rfl⟩
          go_wp2_with fail
          go_ret2
          exact FF.out
        · have d2 : decide ((n : Int) > 1024) = true := decide_eq_true (by omega)
          have d2' : decide (1024 < n) = true := decide_eq_true (by omega)
          clear h hl hxx hx hs h2 h7 h1
          go_enter Try.func25, Try.ntmps25
          go_wp2_with fail
          refine CN.out.mono ?_
          rintro e w' ⟨rfl, rfl⟩
          go_wp2_with fail
          go_ret2
          exact FF.out
      · have d1 : decide ((n : Int) < 7) = true := decide_eq_true (by omega)
        have d1' : decide (n < 7) = true := decide_eq_true (by omega)
        clear h hl hxx hx hs h2 h7
        go_enter Try.func25, Try.ntmps25
        go_wp2_with fail
        refine CN.out.mono ?_
        rintro e w' ⟨rfl, rfl⟩
        go_wp2_with fail
        go_ret2
        exact FF.out
  · have CN := Lib.hid (num_no a n cap 0 2 w (by omega) (by omega) (by omega))
    have SF := Lib.hid (show shapeB bs n = false from by unfold shapeB; rw [decide_eq_false (by omega)]; rfl)
    have FF := Lib.hid (show DecM w bs n (.returned (.tuple #[.nilIface, .int .i64 8])) w from ⟨Below.refl _ _, Or.inl ⟨SF.out, rfl⟩⟩)
    clear h hl h2
    go_enter Try.func25, Try.ntmps25
    go_wp2_with fail
    refine CN.out.mono ?_
    rintro e w' ⟨rfl, rfl⟩
    go_wp2_with fail
    go_ret2
    exact FF.out
end Go.Proofs.Ythboiklcjpnhbaa
/- runes as values -/
namespace Go.Proofs.Ythboiklcjpnhbaa
open Go.RowKit
set_option linter.unusedVariables false
set_option maxRecDepth 20000
theorem i32_info : (Try.prog.info? 21).map (fun i => (i.zero, i.size, i.bytes)) = some (some (.int .i32 0), 1, 4) := by kernel_rfl
/-- runes as numbers, as values -/
def intsN (rs : List Nat) : List Int := rs.map fun r : Nat => (r : Int)
def runesV (rs : List Int) : List Value := rs.map (Value.int .i32)
/-- A slice of runes that the call made. -/
def RetR (ER : TypeId) (w : World) (rs : List Int) (a : Option Addr) (c : Nat) (w' : World) : Prop :=
  w'.ownsRow w.heap.size ER 1 (.slice a rs.length c) rs.length (runesV rs) ∧ Below w.heap.size w w' ∧ (a = none → rs.length = 0 ∧ c = 0)
theorem RetR.holds {ER : TypeId} {w w' : World} {rs : List Int} {a : Option Addr} {c : Nat} (h : RetR ER w rs a c w') : HoldsI .i32 w' a rs.length rs := by
  have hv := owns_holds h.1
  refine ⟨rfl, fun h0 => ?_⟩
  obtain ⟨b, o, ha, hc⟩ := hv.2 h0
  exact ⟨b, o, ha, fun i hi => by rw [hc i hi, runesV, getD_map_int .i32 rs i hi]⟩
theorem holdsR_values {w : World} {a : Option Addr} {n : Nat} {rs : List Int} (h : HoldsI .i32 w a n rs) : HoldsV w a n (runesV rs) := h.values
theorem runesV_snoc (P : List Nat) (r : Nat) : runesV (intsN (P ++ [r])) = runesV (intsN P) ++ [Value.int .i32 (r : Int)] := by simp [runesV, intsN]
theorem one_cells (w : World) (v : Value) (e : TypeId) (fr : Nat × Nat) : ∀ j u, [v][j]? = some u → (w.alloc (.cells #[v] e fr)).cell? ((⟨w.heap.size, 0, none⟩ : Addr).add j) = some u := one_new w v e fr _ rfl
theorem owns_iterAt {w : World} {base : Nat} {e : TypeId} {size : Nat} {v : Value} {n : Nat} {xs : List Value} (h : w.ownsRow base e size v n xs) {k : Nat} {s : ByteArray} {pos : Nat} (hk : w.heap[k]? = some (.stringIter s pos)) (pos' : Nat) :
    (w.iterAt k s pos').ownsRow base e size v n xs := by
  refine ⟨h.1, ?_⟩
  rcases h.2 with h0 | ⟨g, cap, cur, hv, hg, hh, r⟩
  · exact Or.inl h0
  · exact Or.inr ⟨g, cap, cur, hv, hg, by rw [Lib.iterAt_other w k g s pos' (fun e1 => by rw [e1, hk] at hh; cases hh)]; exact hh, r⟩
end Go.Proofs.Ythboiklcjpnhbaa
/- contracts of the document's reading of runes: more, one, Good -/
namespace Go.Proofs.Ythboiklcjpnhbaa
open Go.RowKit
set_option linter.unusedVariables false
set_option maxRecDepth 20000
def byteS (s : ByteArray) (i : Nat) : Nat := (s.get! i).toNat
theorem byteS_lt (s : ByteArray) (i : Nat) : byteS s i < 256 := UInt8.toNat_lt _
theorem byteS_at (s : ByteArray) (i : Nat) (h : i < s.size) : (s[i]'h).toNat = byteS s i := by
  unfold byteS
  obtain ⟨d⟩ := s
  have h' : i < d.size := h
  simp [ByteArray.get!, h', getElem!_pos]
  rfl
def moreP (s : ByteArray) (i : Nat) : Prop := i < s.size ∧ 128 ≤ byteS s i ∧ byteS s i ≤ 191
instance (s : ByteArray) (i : Nat) : Decidable (moreP s i) := by unfold moreP; infer_instance
def moreV (s : ByteArray) (i : Nat) : Int := if moreP s i then (byteS s i : Int) - 128 else 0
theorem more_any (s : ByteArray) (i : Nat) (w : World) (hs : s.size ≤ 1048576) (hi : i ≤ 1048580) :
    Calls Try.prog 112 #[.string s, .int .i64 i] w fun e w' => e = .returned (.tuple #[.int .i32 (moreV s i), .bool (decide (moreP s i))]) ∧ w = w' := by
  have hb := byteS_lt s i
  by_cases hP : moreP s i
  · unfold moreV
    rw [if_pos hP, decide_eq_true hP]
    obtain ⟨h1, h2, h3⟩ := hP
    have hx := byteS_at s i h1
    obtain ⟨x, hx2⟩ : ∃ x, byteS s i = x := ⟨_, rfl⟩
    rw [hx2] at hx h2 h3 hb ⊢
    clear hx2
    go_enter Try.func112, Try.ntmps112
    go_wp2
    go_ret2
    exact ⟨rfl, rfl⟩
  · unfold moreV
    rw [if_neg hP, decide_eq_false hP]
    by_cases h1 : i < s.size
    · have h2 : byteS s i < 128 ∨ (128 ≤ byteS s i ∧ 191 < byteS s i) := by unfold moreP at hP; omega
      have hx := byteS_at s i h1
      obtain ⟨x, hx2⟩ : ∃ x, byteS s i = x := ⟨_, rfl⟩
      rw [hx2] at hx h2 hb
      clear hx2 hP
      rcases h2 with h2 | ⟨h2, h3⟩
      all_goals
        go_enter Try.func112, Try.ntmps112
        go_wp2
        go_ret2
        exact ⟨rfl, rfl⟩
    · clear hP
      go_enter Try.func112, Try.ntmps112
      go_wp2
      go_ret2
      exact ⟨rfl, rfl⟩
def goodP (r : Int) : Prop := 0 ≤ r ∧ r ≤ 1114111 ∧ (r < 55296 ∨ 57343 < r) ∧ r ≠ 65533
instance (r : Int) : Decidable (goodP r) := by unfold goodP; infer_instance
theorem good_any (r : Int) (w : World) : Calls Try.prog 109 #[.int .i32 r] w fun e w' => e = .returned (.bool (decide (goodP r))) ∧ w = w' := by
  have hc : r < 0 ∨ (0 ≤ r ∧ 1114111 < r) ∨ (0 ≤ r ∧ r ≤ 1114111 ∧ 55296 ≤ r ∧ r ≤ 57343) ∨ (0 ≤ r ∧ r ≤ 1114111 ∧ r < 55296) ∨ (0 ≤ r ∧ r ≤ 1114111 ∧ 55296 ≤ r ∧ 57343 < r) := by omega
  rcases hc with h | ⟨h, h2⟩ | ⟨h, h2, h3, h4⟩ | ⟨h, h2, h3⟩ | ⟨h, h2, h3, h4⟩
  · rw [decide_eq_false (by unfold goodP; omega)]
    go_enter Try.func109, Try.ntmps109
    go_wp2
    go_ret
    exact ⟨rfl, rfl⟩
  · rw [decide_eq_false (by unfold goodP; omega)]
    go_enter Try.func109, Try.ntmps109
    go_wp2
    go_ret
    exact ⟨rfl, rfl⟩
  · rw [decide_eq_false (by unfold goodP; omega)]
    go_enter Try.func109, Try.ntmps109
    go_wp2
    go_ret
    exact ⟨rfl, rfl⟩
  · rw [show decide (goodP r) = (r != 65533) by rw [Bool.eq_iff_iff]; simp only [decide_eq_true_eq, bne_iff_ne]; unfold goodP; omega]
    go_enter Try.func109, Try.ntmps109
    go_wp2
    go_ret
    exact ⟨rfl, rfl⟩
  · rw [show decide (goodP r) = (r != 65533) by rw [Bool.eq_iff_iff]; simp only [decide_eq_true_eq, bne_iff_ne]; unfold goodP; omega]
    go_enter Try.func109, Try.ntmps109
    go_wp2
    go_ret
    exact ⟨rfl, rfl⟩
end Go.Proofs.Ythboiklcjpnhbaa
/- texts one behind the other, spoilt ones: plain lemmas (TpM, TpN without the prefix) -/

namespace Go.Proofs.Ythboiklcjpnhbaa
open Go.RowKit
set_option linter.unusedVariables false
set_option maxRecDepth 20000
theorem byteS_out (s : ByteArray) (i : Nat) (h : s.size ≤ i) : byteS s i = 0 := by
  unfold byteS
  obtain ⟨d⟩ := s
  have h' : ¬ i < d.size := Nat.not_lt.2 h
  simp [ByteArray.get!, h', getElem!_neg]
  rfl
theorem byteS_left (a b : ByteArray) (i : Nat) (h : i < a.size) : byteS (a ++ b) i = byteS a i := by
  have h2 : i < (a ++ b).size := by rw [ByteArray.size_append]; omega
  rw [← byteS_at (a ++ b) i h2, ← byteS_at a i h, ByteArray.getElem_append_left h]
theorem byteS_right (a b : ByteArray) (i : Nat) : byteS (a ++ b) (a.size + i) = byteS b i := by
  by_cases h : i < b.size
  · have h2 : a.size + i < (a ++ b).size := by rw [ByteArray.size_append]; omega
    rw [← byteS_at (a ++ b) _ h2, ← byteS_at b i h, ByteArray.getElem_append_right (by omega)]
    simp
  · rw [byteS_out _ _ (by rw [ByteArray.size_append]; omega), byteS_out _ _ (by omega)]
theorem decode_bytes (s : ByteArray) (i : Nat) : Utf8.decode s i = Lib.decodeN (s.size - i) (byteS s i) (byteS s (i + 1)) (byteS s (i + 2)) (byteS s (i + 3)) := Lib.decode_at s i
theorem decode_right (a b : ByteArray) (j : Nat) : Utf8.decode (a ++ b) (a.size + j) = Utf8.decode b j := by
  rw [decode_bytes, decode_bytes, byteS_right, Nat.add_assoc, byteS_right, Nat.add_assoc, byteS_right, Nat.add_assoc, byteS_right, ByteArray.size_append]
  congr 1; omega
theorem decodeN_more (n n' b0 b1 b2 b3 c1 c2 c3 : Nat) (hn : n ≤ n') (h1 : 1 < n → c1 = b1) (h2 : 2 < n → c2 = b2) (h3 : 3 < n → c3 = b3) (hpos : 0 < n) (hg : (Lib.decodeN n b0 b1 b2 b3).1 ≠ 65533) :
    Lib.decodeN n' b0 c1 c2 c3 = Lib.decodeN n b0 b1 b2 b3 ∧ (Lib.decodeN n b0 b1 b2 b3).2 ≤ n := by
  unfold Lib.decodeN at *
  by_cases k0 : b0 < 128
  · simp only [k0, if_true] at *; exact ⟨trivial, by omega⟩
  simp only [k0, if_false] at *
  by_cases k1 : b0 / 32 = 6 ∧ 1 < n ∧ b1 / 64 = 2
  · have e1 := h1 k1.2.1
    subst e1
    rw [if_pos k1] at hg ⊢
    rw [if_pos ⟨k1.1, by omega, k1.2.2⟩]
    refine ⟨rfl, ?_⟩
    split <;> simp only <;> omega
  rw [if_neg k1] at hg ⊢
  by_cases k2 : b0 / 16 = 14 ∧ (1 < n ∧ b1 / 64 = 2) ∧ 2 < n ∧ b2 / 64 = 2
  · have e1 := h1 k2.2.1.1
    have e2 := h2 k2.2.2.1
    subst e1 e2
    rw [if_pos k2] at hg ⊢
    rw [if_neg (by omega), if_pos ⟨k2.1, ⟨by omega, k2.2.1.2⟩, by omega, k2.2.2.2⟩]
    refine ⟨rfl, ?_⟩
    split <;> simp only <;> omega
  rw [if_neg k2] at hg ⊢
  by_cases k3 : b0 / 8 = 30 ∧ (1 < n ∧ b1 / 64 = 2) ∧ (2 < n ∧ b2 / 64 = 2) ∧ 3 < n ∧ b3 / 64 = 2
  · have e1 := h1 k3.2.1.1
    have e2 := h2 k3.2.2.1.1
    have e3 := h3 k3.2.2.2.1
    subst e1 e2 e3
    rw [if_pos k3] at hg ⊢
    rw [if_neg (by omega), if_neg (by omega), if_pos ⟨k3.1, ⟨by omega, k3.2.1.2⟩, ⟨by omega, k3.2.2.1.2⟩, by omega, k3.2.2.2.2⟩]
    refine ⟨rfl, ?_⟩
    split <;> simp only <;> omega
  rw [if_neg k3] at hg
  exact absurd rfl hg
theorem decode_left (a b : ByteArray) (i : Nat) (h : i < a.size) (hg : (Utf8.decode a i).1 ≠ 65533) : Utf8.decode (a ++ b) i = Utf8.decode a i ∧ i + (Utf8.decode a i).2 ≤ a.size := by
  rw [decode_bytes a i] at hg ⊢
  rw [decode_bytes (a ++ b) i, byteS_left a b i h]
  have := decodeN_more (a.size - i) ((a ++ b).size - i) (byteS a i) (byteS a (i + 1)) (byteS a (i + 2)) (byteS a (i + 3)) (byteS (a ++ b) (i + 1)) (byteS (a ++ b) (i + 2)) (byteS (a ++ b) (i + 3))
    (by rw [ByteArray.size_append]; omega) (fun _ => byteS_left a b _ (by omega)) (fun _ => byteS_left a b _ (by omega)) (fun _ => byteS_left a b _ (by omega)) (by omega) hg
  exact ⟨this.1, by omega⟩
theorem runesN_fuel (s : ByteArray) : ∀ f g pos, s.size ≤ pos + f → s.size ≤ pos + g → runesN s f pos = runesN s g pos := by
  intro f
  induction f with
  | zero => intro g pos h1 h2; rw [runesN_end s 0 pos (by omega), runesN_end s g pos (by omega)]
  | succ f ih =>
    intro g pos h1 h2
    by_cases hlt : pos < s.size
    · obtain ⟨g', rfl, hst, _⟩ := runesN_step s g pos hlt h2
      have hw := decode_width s pos hlt
      rw [hst, runesN, if_pos hlt, ih g' _ (by omega) (by omega)]
    · rw [runesN_end s _ pos hlt, runesN_end s g pos hlt]
theorem runesN_right (a b : ByteArray) : ∀ f j, runesN (a ++ b) f (a.size + j) = runesN b f j := by
  intro f
  induction f with
  | zero => intro j; rfl
  | succ f ih =>
    intro j
    rw [runesN, runesN, decode_right, ByteArray.size_append, Nat.add_assoc, ih]
    by_cases h : j < b.size
    · rw [if_pos h, if_pos (by omega)]
    · rw [if_neg h, if_neg (by omega)]
theorem runesN_join (a b : ByteArray) : ∀ f pos, a.size ≤ pos + f → pos ≤ a.size → (∀ r ∈ runesN a f pos, r ≠ 65533) → ∀ F, (a ++ b).size ≤ pos + F → runesN (a ++ b) F pos = runesN a f pos ++ runesS b := by
  intro f
  induction f with
  | zero =>
    intro pos h1 h2 _ F hF
    obtain rfl : pos = a.size := by omega
    rw [runesN_end a 0 _ (by omega), List.nil_append]
    have := runesN_right a b F 0
    rw [Nat.add_zero] at this
    rw [this]
    exact runesN_fuel b F b.size 0 (by rw [ByteArray.size_append] at hF; omega) (by omega)
  | succ f ih =>
    intro pos h1 h2 hg F hF
    by_cases hlt : pos < a.size
    · rw [runesN, if_pos hlt] at hg ⊢
      have hgr := hg _ (List.mem_cons_self ..)
      obtain ⟨e1, e2⟩ := decode_left a b pos hlt hgr
      have hw := decode_width a pos hlt
      have hlt2 : pos < (a ++ b).size := by rw [ByteArray.size_append]; omega
      obtain ⟨F', rfl, hst, hF'⟩ := runesN_step (a ++ b) F pos hlt2 hF
      rw [hst, e1]
      rw [e1] at hF'
      rw [ih _ (by omega) e2 (fun r hr => hg r (List.mem_cons_of_mem _ hr)) F' hF']
      rfl
    · obtain rfl : pos = a.size := by omega
      rw [runesN_end a _ _ (by omega), List.nil_append]
      have := runesN_right a b F 0
      rw [Nat.add_zero] at this
      rw [this]
      exact runesN_fuel b F b.size 0 (by rw [ByteArray.size_append] at hF; omega) (by omega)
theorem runesS_join (a b : ByteArray) (hg : 0 ≤ lenS a) : runesS (a ++ b) = runesS a ++ runesS b :=
  runesN_join a b a.size 0 (by omega) (by omega) (lenS_pos hg).1 _ (by omega)
theorem lenS_join (a b : ByteArray) (ha : 0 ≤ lenS a) (hb : 0 ≤ lenS b) : lenS (a ++ b) = lenS a + lenS b := by
  have h1 := lenS_pos ha
  have h2 := lenS_pos hb
  have h3 := runesS_join a b ha
  rw [lenS_good (s := a ++ b) (by intro r hr; rw [h3] at hr; rcases List.mem_append.1 hr with h | h; exact h1.1 r h; exact h2.1 r h), h3, List.length_append, h1.2, h2.2]
  omega
theorem runes_none (a : ByteArray) (h : runesS a = []) : a.size = 0 := by
  rcases Nat.eq_zero_or_pos a.size with h0 | h0
  · exact h0
  · obtain ⟨g, hf, hst, _⟩ := runesN_step a a.size 0 h0 (by omega)
    unfold runesS at h
    rw [hst] at h
    cases h
theorem extract_left (a b : ByteArray) : (a ++ b).extract 0 a.size = a := by
  apply ByteArray.ext
  simp only [ByteArray.data_extract, ByteArray.data_append]
  rw [show a.size = a.data.size from rfl, Array.extract_append_left]
  simp
theorem empty_of (a : ByteArray) (h : a.size = 0) : a = { data := #[] } := by
  apply ByteArray.ext
  exact Array.eq_empty_of_size_eq_zero h
theorem decodeN_bytes (n b0 b1 b2 b3 : Nat) (h0 : b0 < 256) (hg : (Lib.decodeN n b0 b1 b2 b3).1 ≠ 65533) :
    b0 < 248 ∧ (Lib.decodeN n b0 b1 b2 b3).2 ≤ 4 ∧ (1 < (Lib.decodeN n b0 b1 b2 b3).2 → b1 < 248) ∧ (2 < (Lib.decodeN n b0 b1 b2 b3).2 → b2 < 248) ∧ (3 < (Lib.decodeN n b0 b1 b2 b3).2 → b3 < 248) := by
  unfold Lib.decodeN at *
  by_cases k0 : b0 < 128
  · rw [if_pos k0]; simp only; omega
  rw [if_neg k0] at hg ⊢
  by_cases k1 : b0 / 32 = 6 ∧ 1 < n ∧ b1 / 64 = 2
  · rw [if_pos k1]
    split <;> simp only <;> omega
  rw [if_neg k1] at hg ⊢
  by_cases k2 : b0 / 16 = 14 ∧ (1 < n ∧ b1 / 64 = 2) ∧ 2 < n ∧ b2 / 64 = 2
  · rw [if_pos k2]
    split <;> simp only <;> omega
  rw [if_neg k2] at hg ⊢
  by_cases k3 : b0 / 8 = 30 ∧ (1 < n ∧ b1 / 64 = 2) ∧ (2 < n ∧ b2 / 64 = 2) ∧ 3 < n ∧ b3 / 64 = 2
  · rw [if_pos k3]
    split <;> simp only <;> omega
  rw [if_neg k3] at hg
  exact absurd rfl hg
theorem good_bytes (t : ByteArray) : ∀ f pos, t.size ≤ pos + f → (∀ r ∈ runesN t f pos, r ≠ 65533) → ∀ i, pos ≤ i → i < t.size → byteS t i < 248 := by
  intro f
  induction f with
  | zero => intro pos h1 _ i h2 h3; omega
  | succ f ih =>
    intro pos h1 hg i h2 h3
    have hlt : pos < t.size := by omega
    rw [runesN, if_pos hlt] at hg
    have hgr := hg _ (List.mem_cons_self ..)
    have hw := decode_width t pos hlt
    by_cases h4 : pos + (Utf8.decode t pos).2 ≤ i
    · exact ih _ (by omega) (fun r hr => hg r (List.mem_cons_of_mem _ hr)) i h4 h3
    · rw [decode_bytes] at hgr h4
      obtain ⟨g0, g5, g1, g2, g3⟩ := decodeN_bytes _ _ _ _ _ (byteS_lt t pos) hgr
      have hi : i = pos ∨ i = pos + 1 ∨ i = pos + 2 ∨ i = pos + 3 := by omega
      rcases hi with rfl | rfl | rfl | rfl
      · exact g0
      · exact g1 (by omega)
      · exact g2 (by omega)
      · exact g3 (by omega)
theorem lenS_spoilt (t : ByteArray) (i : Nat) (hi : i < t.size) (hb : 248 ≤ byteS t i) : lenS t = -1 := by
  have h1 := lenS_bd t
  by_cases hg : 0 ≤ lenS t
  · have := good_bytes t t.size 0 (by omega) (lenS_pos hg).1 i (by omega) hi
    omega
  · omega
theorem lenS_cut (t : ByteArray) (h0 : 0 < t.size) (hb : 128 ≤ byteS t 0 ∧ byteS t 0 ≤ 191) : ∃ Q, runesS t = 65533 :: Q := by
  obtain ⟨g, hf, hst, _⟩ := runesN_step t t.size 0 h0 (by omega)
  have hd : (Utf8.decode t 0).1 = 65533 := by
    rw [decode_bytes]
    unfold Lib.decodeN
    rw [if_neg (by omega), if_neg (by omega), if_neg (by omega), if_neg (by omega)]
  exact ⟨_, by unfold runesS; rw [hst, hd]⟩
theorem lenS_behind (t : ByteArray) (h0 : 0 < t.size) (hb : 128 ≤ byteS t 0 ∧ byteS t 0 ≤ 191) : lenS t = -1 := by
  obtain ⟨Q, hQ⟩ := lenS_cut t h0 hb
  exact lenS_bad (P := []) (by rw [hQ]; rfl)
theorem lenS_ahead (a b : ByteArray) (hs : 0 ≤ lenS (a ++ b)) (h0 : 0 < b.size) (hb : 128 ≤ byteS b 0 ∧ byteS b 0 ≤ 191) : lenS a = -1 := by
  have h1 := lenS_bd a
  by_cases hg : 0 ≤ lenS a
  · obtain ⟨Q, hQ⟩ := lenS_cut b h0 hb
    have hj := runesS_join a b hg
    rw [hQ] at hj
    have := lenS_bad hj
    omega
  · omega
theorem extract_join (s : ByteArray) (k : Nat) (hk : k ≤ s.size) : s.extract 0 k ++ s.extract k s.size = s := by
  apply ByteArray.ext
  simp only [ByteArray.data_extract, ByteArray.data_append]
  rw [Array.extract_append_extract]
  rw [show min 0 k = 0 by omega, show max k s.size = s.size by omega]
  exact Array.extract_eq_self_of_le (Nat.le_refl _)
theorem extract_size (s : ByteArray) (k : Nat) (hk : k ≤ s.size) : (s.extract 0 k).size = k ∧ (s.extract k s.size).size = s.size - k := by
  constructor <;> simp [ByteArray.size_extract] <;> omega
end Go.Proofs.Ythboiklcjpnhbaa
/- lists of api.Edge: 2 cells each -/
namespace Go.Proofs.Ythboiklcjpnhbaa
open Go.RowKit
set_option linter.unusedVariables false
set_option maxRecDepth 20000
structure EdP where
  r : Int
  dst : Int
def ed0 : EdP := ⟨0, 0⟩
def cellsEd (x : EdP) : List Value := [(.int .i32 x.r), (.int .i64 x.dst)]
def HoldsEd (w : World) (a : Option Addr) (n : Nat) (ks : List EdP) : Prop := ks.length = n ∧ (0 < n → ∃ b o, a = some ⟨b, o, none⟩ ∧ ∀ i, i < n → w.cell? ⟨b, o + i * 2, none⟩ = some (.int .i32 (ks.getD i ed0).r) ∧ w.cell? ⟨b, o + i * 2 + 1, none⟩ = some (.int .i64 (ks.getD i ed0).dst))
theorem HoldsEd.len {w : World} {a : Option Addr} {n : Nat} {ks : List EdP} (h : HoldsEd w a n ks) : ks.length = n := h.1
theorem HoldsEd.at {w : World} {a : Option Addr} {n : Nat} {ks : List EdP} (h : HoldsEd w a n ks) (h0 : 0 < n) : ∃ b o, a = some ⟨b, o, none⟩ ∧ ∀ i, i < n → w.cell? ⟨b, o + i * 2, none⟩ = some (.int .i32 (ks.getD i ed0).r) ∧ w.cell? ⟨b, o + i * 2 + 1, none⟩ = some (.int .i64 (ks.getD i ed0).dst) := h.2 h0
theorem HoldsEd.nil (w : World) (a : Option Addr) : HoldsEd w a 0 [] := ⟨rfl, fun h => absurd h (by omega)⟩
theorem HoldsEd.below {w w' : World} {a : Option Addr} {n : Nat} {ks : List EdP} (h : HoldsEd w a n ks) (hb : Below w.heap.size w w') : HoldsEd w' a n ks := by
  refine ⟨h.1, fun h0 => ?_⟩
  obtain ⟨b, o, ha, hc⟩ := h.2 h0
  have hlt := lt_of_cell (hc 0 h0).1
  refine ⟨b, o, ha, fun i hi => ?_⟩
  rw [hb.cell (p := ⟨b, o + i * 2, none⟩) hlt, hb.cell (p := ⟨b, o + i * 2 + 1, none⟩) hlt]
  exact hc i hi
theorem getD_memEd (zs : List EdP) (j : Nat) (h : j < zs.length) : zs.getD j ed0 ∈ zs := by
  rw [List.getD_eq_getElem?_getD, List.getElem?_eq_getElem h]; simp
def edsV : List EdP → List Value
  | [] => []
  | k :: ks => (.int .i32 k.r) :: (.int .i64 k.dst) :: edsV ks
theorem edsV_len : ∀ ks : List EdP, (edsV ks).length = ks.length * 2
  | [] => rfl
  | k :: ks => by simp [edsV, edsV_len ks]; omega
theorem edsV_app : ∀ ks ls : List EdP, edsV (ks ++ ls) = edsV ks ++ edsV ls
  | [], ls => rfl
  | k :: ks, ls => by simp [edsV, edsV_app ks ls]
theorem edsV_one : ∀ (ks : List EdP), ∀ u ∈ edsV ks, u.oneCell' = true
  | [], u, h => by simp [edsV] at h
  | k :: ks, u, h => by
    simp only [edsV, List.mem_cons] at h
    rcases h with h | h | h
    · subst h; rfl
    · subst h; rfl
    · exact edsV_one ks u h
theorem edsV_at : ∀ (ks : List EdP) (i : Nat), i < ks.length → (edsV ks)[i * 2]? = some (.int .i32 (ks.getD i ed0).r) ∧ (edsV ks)[i * 2 + 1]? = some (.int .i64 (ks.getD i ed0).dst)
  | [], i, h => by simp at h
  | k :: ks, 0, _ => by simp [edsV]
  | k :: ks, i + 1, h => by
    have ih := edsV_at ks i (by simpa using h)
    have e1 : (i + 1) * 2 = i * 2 + 1 + 1 := by omega
    rw [e1]
    simpa [edsV] using ih
theorem edsV_snoc (ks : List EdP) (k : EdP) : edsV (ks ++ [k]) = edsV ks ++ cellsEd k := by rw [edsV_app]; rfl
theorem HoldsEd.cells {w : World} {b o n : Nat} {ks : List EdP} (h : HoldsEd w (some ⟨b, o, none⟩) n ks) : ∀ j u, (edsV ks)[j]? = some u → w.cell? ((⟨b, o, none⟩ : Addr).add j) = some u := by
  intro j u hj
  have hl := h.len
  have hjl : j < (edsV ks).length := by
    rcases Nat.lt_or_ge j (edsV ks).length with h' | h'
    · exact h'
    · rw [List.getElem?_eq_none h'] at hj; cases hj
  rw [edsV_len] at hjl
  obtain ⟨b', o', ha, hc⟩ := h.at (by omega)
  cases ha
  obtain ⟨c0, c1⟩ := hc (j / 2) (by omega)
  obtain ⟨v0, v1⟩ := edsV_at ks (j / 2) (by omega)
  rw [Go.WideShapes.add_plain]
  have hcase : j = j / 2 * 2 ∨ j = j / 2 * 2 + 1 := by omega
  rcases hcase with e | e
  · have e2 : o + j / 2 * 2 = o + j := by omega
    rw [← e] at v0
    rw [e2] at c0
    rw [c0, ← hj, v0]
  · have e2 : o + j / 2 * 2 + 1 = o + j := by omega
    rw [← e] at v1
    rw [e2] at c1
    rw [c1, ← hj, v1]
theorem HoldsEd.own {w : World} {B : Nat} {e : TypeId} {a : Option Addr} {n c : Nat} {ks : List EdP} (h : w.ownsRow B e 2 (.slice a n c) n (edsV ks)) : HoldsEd w a n ks := by
  have hl : ks.length = n := by have := h.1; rw [edsV_len] at this; omega
  refine ⟨hl, fun h0 => ?_⟩
  rcases h.2 with ⟨_, h1⟩ | ⟨g, cap, cur, hv, _, hh, hc, _, hs, hx⟩
  · omega
  · simp only [Value.slice.injEq] at hv
    obtain ⟨rfl, _, rfl⟩ := hv
    refine ⟨g, 0, rfl, fun i hi => ?_⟩
    obtain ⟨v0, v1⟩ := edsV_at ks i (by omega)
    rw [← hx] at v0 v1
    rw [List.getElem?_take_of_lt (by omega)] at v0 v1
    rw [Array.getElem?_toList] at v0 v1
    rw [Nat.zero_add, Joins.cell_of_block hh, Joins.cell_of_block hh]
    exact ⟨v0, v1⟩
theorem HoldsEd.cellsAny {w : World} {a : Option Addr} {n : Nat} {ks : List EdP} (h : HoldsEd w a n ks) {w' : World} (hg : w.grownBy w' none) : ∀ ad, a = some ad → ∀ j u, (edsV ks)[j]? = some u → w'.cell? (ad.add j) = some u := by
  intro ad ha j u hj
  have hjl : j < (edsV ks).length := (List.getElem?_eq_some_iff.1 hj).1
  rw [edsV_len] at hjl
  obtain ⟨b, o, hb, _⟩ := h.at (by have := h.len; omega)
  rw [ha] at hb
  obtain rfl := Option.some.inj hb
  subst ha
  exact hg.cell (h.cells j u hj) (by simp)
theorem HoldsEd.cellsAt {w : World} {a : Option Addr} {n : Nat} {ks : List EdP} (h : HoldsEd w a n ks) : ∀ ad, a = some ad → ∀ j u, (edsV ks)[j]? = some u → w.cell? (ad.add j) = some u := HoldsEd.cellsAny h ⟨rfl, rfl, rfl, Nat.le_refl _, fun _ _ _ => rfl⟩
end Go.Proofs.Ythboiklcjpnhbaa
/- graph: what is plain -/
namespace Go.Proofs.Ythboiklcjpnhbaa
open Go.RowKit
set_option linter.unusedVariables false
set_option maxRecDepth 20000
def labS (s : Tx) : Nat := (Utf8.decode s 0).1
def rstS (s : Tx) : Tx := s.extract (Utf8.decode s 0).2 s.size
/-- the first rune of the first, and what is behind it in all that begin so -/
def folS : List Tx → Nat × List Tx
  | [] => (0, [])
  | s :: l => (labS s, ((s :: l).takeWhile (fun t => decide (labS t = labS s))).map rstS)
structure GN where
  rests : List Tx
  final : Bool
  edges : List EdP
def gn0 : GN := ⟨[], false, []⟩
def finS (l : List Tx) : Bool := decide (l.head? = some (⟨#[]⟩ : ByteArray))
def bodS (l : List Tx) : List Tx := if finS l then l.tail else l
def edgesF (rf : List GN → List Tx → Nat × List GN) : Nat → List Tx → List EdP → List GN → List EdP × List GN
  | 0, _, es, st => (es, st)
  | f + 1, l, es, st => if l = [] then (es, st) else edgesF rf f (l.drop (folS l).2.length) (es ++ [⟨((folS l).1 : Int), ((rf st (folS l).2).1 : Int)⟩]) (rf st (folS l).2).2
def findG (st : List GN) (s : List Tx) : Option Nat := st.findIdx? (fun g => decide (g.rests = s))
def reachF : Nat → List GN → List Tx → Nat × List GN
  | 0, st, _ => (0, st)
  | f + 1, st, s =>
    match findG st s with
    | some i => (i, st)
    | none => (st.length, (edgesF (reachF f) (bodS s).length (bodS s) [] (st ++ [⟨s, false, []⟩])).2.set st.length ⟨s, finS s, (edgesF (reachF f) (bodS s).length (bodS s) [] (st ++ [⟨s, false, []⟩])).1⟩)
/-- texts in order, each well made, of at most f runes; not too many, nor too long -/
structure OkL (f : Nat) (l : List Tx) : Prop where
  ord : SortedS l
  lo : ∀ t ∈ l, 0 ≤ lenS t
  hi : ∀ t ∈ l, lenS t ≤ f
  n : l.length ≤ 100
  sz : ∀ t ∈ l, t.size ≤ 100
theorem fol_len (l : List Tx) (h : l ≠ []) : 0 < (folS l).2.length ∧ (folS l).2.length ≤ l.length := by
  cases l with
  | nil => exact absurd rfl h
  | cons s l =>
    unfold folS
    simp only [List.length_map]
    rw [List.takeWhile_cons, if_pos (by simp)]
    have := (List.takeWhile_sublist (l := l) (fun t => decide (labS t = labS s))).length_le
    simp; omega
theorem empty_size {t : Tx} (h : t.size = 0) : t = ⟨#[]⟩ := by
  have := empty_of t h; exact this
theorem cmp_empty (t : Tx) : ¬ cmpS t ⟨#[]⟩ < 0 := by
  rw [cmpS_lt]
  intro h
  have : (⟨#[]⟩ : ByteArray).toList = [] := by kernel_rfl
  rw [this] at h
  exact List.not_lt_nil _ h
theorem bod_pos {l : List Tx} (h : SortedS l) : ∀ t ∈ bodS l, 0 < t.size := by
  intro t ht
  cases l with
  | nil => simp [bodS, finS] at ht
  | cons s l =>
    unfold bodS at ht
    have hp := List.pairwise_cons.1 h
    by_cases hf : finS (s :: l) = true
    · rw [if_pos hf] at ht
      have hc := hp.1 t ht
      rcases Nat.eq_zero_or_pos t.size with h0 | h0
      · rw [empty_size h0] at hc
        exact absurd hc (cmp_empty s)
      · exact h0
    · rw [if_neg hf] at ht
      have hs : 0 < s.size := by
        rcases Nat.eq_zero_or_pos s.size with h0 | h0
        · exact absurd (by unfold finS; rw [empty_size h0]; simp) hf
        · exact h0
      rcases List.mem_cons.1 ht with rfl | ht
      · exact hs
      · have hc := hp.1 t ht
        rcases Nat.eq_zero_or_pos t.size with h0 | h0
        · rw [empty_size h0] at hc
          exact absurd hc (cmp_empty s)
        · exact h0
theorem OkL.bod {f : Nat} {l : List Tx} (h : OkL f l) : OkL f (bodS l) := by
  unfold bodS
  split
  · exact ⟨List.Pairwise.tail h.ord, fun t ht => h.lo t (List.mem_of_mem_tail ht), fun t ht => h.hi t (List.mem_of_mem_tail ht), by rw [List.length_tail]; have := h.n; omega, fun t ht => h.sz t (List.mem_of_mem_tail ht)⟩
  · exact h
theorem OkL.drop {f : Nat} {l : List Tx} (h : OkL f l) (k : Nat) : OkL f (l.drop k) :=
  ⟨List.Pairwise.sublist (List.drop_sublist _ _) h.ord, fun t ht => h.lo t (List.mem_of_mem_drop ht), fun t ht => h.hi t (List.mem_of_mem_drop ht), by rw [List.length_drop]; have := h.n; omega, fun t ht => h.sz t (List.mem_of_mem_drop ht)⟩
/-! the first rune -/
theorem good_first {t : Tx} (h : 0 ≤ lenS t) (h0 : 0 < t.size) : (Utf8.decode t 0).1 ≠ 65533 ∧ (Utf8.decode t 0).2 ≤ t.size ∧ runesS t = labS t :: runesN t (t.size - 1) (Utf8.decode t 0).2 := by
  obtain ⟨g, hg, hs, _⟩ := runesN_step t t.size 0 h0 (by omega)
  have hr : runesS t = labS t :: runesN t g (Utf8.decode t 0).2 := by
    show runesN t t.size 0 = _
    rw [hs, Nat.zero_add]; rfl
  have hn : (Utf8.decode t 0).1 ≠ 65533 := (lenS_pos h).1 _ (by rw [hr]; exact List.mem_cons_self ..)
  have hw := (decode_left t t 0 h0 hn).2
  refine ⟨hn, by omega, ?_⟩
  rw [hr, show t.size - 1 = g by omega]
theorem rst_split {t : Tx} (h : 0 ≤ lenS t) (h0 : 0 < t.size) : t.extract 0 (Utf8.decode t 0).2 ++ rstS t = t := extract_join t _ (good_first h h0).2.1
theorem rst_size {t : Tx} (h : 0 ≤ lenS t) (h0 : 0 < t.size) : (rstS t).size = t.size - (Utf8.decode t 0).2 ∧ (rstS t).size < t.size := by
  have h1 := (good_first h h0).2.1
  have h2 := (extract_size t _ h1).2
  have h3 := decode_width t 0 h0
  unfold rstS
  omega
theorem rst_runes {t : Tx} (h : 0 ≤ lenS t) (h0 : 0 < t.size) : runesS t = labS t :: runesS (rstS t) := by
  obtain ⟨h1, h2, h3⟩ := good_first h h0
  have hz := (extract_size t (Utf8.decode t 0).2 h2).1
  have hr := rst_split h h0
  have hs := (rst_size h h0).1
  have hw := decode_width t 0 h0
  rw [h3]
  refine congrArg (List.cons (labS t)) ?_
  have e : runesN t (t.size - 1) (Utf8.decode t 0).2 = runesN (t.extract 0 (Utf8.decode t 0).2 ++ rstS t) (t.size - 1) ((t.extract 0 (Utf8.decode t 0).2).size + 0) := by rw [hr, hz, Nat.add_zero]
  rw [e, runesN_right]
  show runesN (rstS t) (t.size - 1) 0 = runesN (rstS t) (rstS t).size 0
  exact runesN_fuel (rstS t) (t.size - 1) (rstS t).size 0 (by omega) (by omega)
theorem rst_len {t : Tx} (h : 0 ≤ lenS t) (h0 : 0 < t.size) : 0 ≤ lenS (rstS t) ∧ lenS t = lenS (rstS t) + 1 := by
  have hr := rst_runes h h0
  obtain ⟨h1, h2⟩ := lenS_pos h
  have hg : ∀ r ∈ runesS (rstS t), r ≠ 65533 := fun r hm => h1 r (by rw [hr]; exact List.mem_cons_of_mem _ hm)
  have := lenS_good hg
  rw [h2, hr, List.length_cons, this]
  omega
end Go.Proofs.Ythboiklcjpnhbaa
/- texts of so many runes have at most four times as many bytes (split from GraphPutW) -/
namespace Go.Proofs.Ythboiklcjpnhbaa
open Go.RowKit
set_option linter.unusedVariables false
set_option maxRecDepth 20000
theorem size_fourM : ∀ (n : Nat) (t : Tx), t.size ≤ n → 0 ≤ lenS t → (t.size : Int) ≤ 4 * lenS t
  | 0, t, h, h0 => by omega
  | n + 1, t, h, h0 => by
    by_cases hp : 0 < t.size
    · have h1 := good_first h0 hp
      have h2 := rst_size h0 hp
      have h3 := rst_len h0 hp
      have h4 : (Utf8.decode t 0).2 ≤ 4 := by
        have h5 := h1.1
        rw [decode_bytes] at h5 ⊢
        exact (decodeN_bytes _ _ _ _ _ (byteS_lt t 0) h5).2.1
      have h6 := size_fourM n (rstS t) (by omega) h3.1
      omega
    · omega
theorem size_4 (t : Tx) (h : 0 ≤ lenS t) : (t.size : Int) ≤ 4 * lenS t := size_fourM t.size t (Nat.le_refl _) h
end Go.Proofs.Ythboiklcjpnhbaa
/- msg: what was laid is read again: plain -/
namespace Go.Proofs.Ythboiklcjpnhbaa
open Go.RowKit
set_option linter.unusedVariables false
set_option maxRecDepth 20000
def Rdy (bs rest : List Nat) (r : RS) : Prop := ∃ P : List Nat, bs = P ++ rest ∧ r = ⟨P.length, false⟩
theorem rdy_num {bs rest : List Nat} {r : RS} (v s : Nat) (hv : v < 256 ^ s) (h : Rdy bs (Cod.bytesOf v s ++ rest) r) : gNum bs bs.length s r = (v : Int) ∧ Rdy bs rest (rNum bs.length s r) := by
  obtain ⟨P, hb, rfl⟩ := h
  have hl : P.length + s ≤ bs.length := by rw [hb]; simp [Cod.bytesOf_length]
  have ok : okR bs.length P.length s false = true := by unfold okR; simpa using hl
  refine ⟨?_, P ++ Cod.bytesOf v s, by rw [hb, List.append_assoc], ?_⟩
  · unfold gNum numR
    simp only [ok, if_true]
    unfold numN
    rw [hb, List.drop_left, List.take_left' (Cod.bytesOf_length v s), Cod.numOf_bytesOf, Nat.mod_eq_of_lt hv]
  · unfold rNum atR
    simp only [ok, if_true]
    simp [Cod.bytesOf_length]
theorem bits_in (v : Int) (h0 : 0 ≤ v) (h1 : v ≤ 2147483647) : bitsV v = v.toNat := by
  obtain ⟨k, rfl⟩ : ∃ k : Nat, v = (k : Int) := ⟨v.toNat, by omega⟩
  rw [bits_nat9 k (by omega)]
  simp
theorem rdy_n4 {bs rest : List Nat} {r : RS} (v : Int) (h0 : 0 ≤ v) (h1 : v ≤ 2147483647) (h : Rdy bs (n4 v ++ rest) r) : gNum bs bs.length 4 r = v ∧ Rdy bs rest (rNum bs.length 4 r) := by
  unfold n4 at h
  rw [bits_in v h0 h1] at h
  have p4 : (256 : Nat) ^ 4 = 4294967296 := by decide
  have := rdy_num v.toNat 4 (by omega) h
  exact ⟨by rw [this.1]; omega, this.2⟩
theorem rdy_n1 {bs rest : List Nat} {r : RS} (v : Int) (h0 : 0 ≤ v) (h1 : v ≤ 255) (h : Rdy bs (n1 v ++ rest) r) : gNum bs bs.length 1 r = v ∧ Rdy bs rest (rNum bs.length 1 r) := by
  unfold n1 at h
  rw [bits_in v h0 (by omega)] at h
  have p1 : (256 : Nat) ^ 1 = 256 := by decide
  have := rdy_num v.toNat 1 (by omega) h
  exact ⟨by rw [this.1]; omega, this.2⟩
theorem strN_strBM (s : ByteArray) : strN (strB s) = s := by
  apply ByteArray.ext
  apply Array.toList_inj.1
  rw [strN, strOfNums_data, strB, List.map_map, List.map_map]
  conv => rhs; rw [← List.map_id s.data.toList]
  refine List.map_congr_left fun x _ => ?_
  simp
theorem rdy_text {bs rest : List Nat} {r : RS} (t : Tx) (ht : t.size ≤ 65535) (h : Rdy bs (tB t ++ rest) r) : gText bs bs.length r = t ∧ Rdy bs rest (rText bs bs.length r) := by
  obtain ⟨P, hb, rfl⟩ := h
  unfold tB at hb
  rw [cutS_small t ht] at hb
  have p2 : (256 : Nat) ^ 2 = 65536 := by decide
  have hn : numN bs P.length 2 = t.size := by
    unfold numN
    rw [hb, List.append_assoc, List.drop_left, List.take_left' (Cod.bytesOf_length _ _), Cod.numOf_bytesOf, Nat.mod_eq_of_lt (by omega)]
  have hl : P.length + 2 + t.size ≤ bs.length := by rw [hb]; simp [Cod.bytesOf_length, strB_length]; omega
  have ok : okT bs bs.length ⟨P.length, false⟩ = true := by
    unfold okT
    simp only [hn]
    simp; omega
  refine ⟨?_, P ++ (Cod.bytesOf t.size 2 ++ strB t), by rw [hb]; simp only [List.append_assoc], ?_⟩
  · unfold gText
    rw [ok, if_pos rfl]
    unfold textN
    simp only [hn]
    have e : (bs.take (P.length + 2 + t.size)).drop (P.length + 2) = strB t := by
      rw [hb, show P ++ (Cod.bytesOf t.size 2 ++ strB t ++ rest) = (P ++ Cod.bytesOf t.size 2) ++ strB t ++ rest by simp only [List.append_assoc], List.take_left' (by simp only [List.length_append, Cod.bytesOf_length, strB_length]), List.drop_left' (by simp [Cod.bytesOf_length])]
    rw [e, strN_strBM]
  · unfold rText
    rw [ok, if_pos rfl]
    simp [hn, Cod.bytesOf_length, strB_length]
    omega
theorem rdy_flag {bs rest : List Nat} {r : RS} (f : Bool) (h : Rdy bs (fB f ++ rest) r) : gFlag bs bs.length r = f ∧ Rdy bs rest (rNum bs.length 1 r) := by
  unfold fB at h
  have := rdy_n1 _ (by split <;> omega) (by split <;> omega) h
  refine ⟨?_, this.2⟩
  unfold gFlag
  rw [this.1]
  cases f <;> rfl
theorem rdy_item {bs rest : List Nat} {r : RS} (k : KV) (h0 : 0 ≤ k.1) (h1 : k.1 ≤ 255) (hs : k.2.size ≤ 65535) (h : Rdy bs (itB k ++ rest) r) : gItem bs bs.length r = k ∧ Rdy bs rest (rItem bs bs.length r) := by
  unfold itB at h
  rw [List.append_assoc] at h
  obtain ⟨e1, h2⟩ := rdy_n1 k.1 h0 h1 h
  obtain ⟨e2, h3⟩ := rdy_text k.2 hs h2
  exact ⟨by unfold gItem; rw [e1, e2], h3⟩
theorem rItems_back (bs : List Nat) (n : Nat) : ∀ (k : Nat) (r : RS), rItems bs n (k + 1) r = rItems bs n k (rItem bs n r)
  | 0, r => rfl
  | k + 1, r => by
    show rItem bs n (rItems bs n (k + 1) r) = rItem bs n (rItems bs n k (rItem bs n r))
    rw [rItems_back bs n k r]
theorem gItems_back (bs : List Nat) (n : Nat) : ∀ (k : Nat) (r : RS), gItems bs n (k + 1) r = gItem bs n r :: gItems bs n k (rItem bs n r)
  | 0, r => rfl
  | k + 1, r => by
    show gItems bs n (k + 1) r ++ [gItem bs n (rItems bs n (k + 1) r)] = gItem bs n r :: (gItems bs n k (rItem bs n r) ++ [gItem bs n (rItems bs n k (rItem bs n r))])
    rw [gItems_back bs n k r, rItems_back bs n k r]; rfl
theorem rdy_items {bs rest : List Nat} : ∀ (ks : List KV) (r : RS), (∀ k ∈ ks, 0 ≤ k.1 ∧ k.1 ≤ 255 ∧ k.2.size ≤ 65535) → Rdy bs (itsB ks ++ rest) r → gItems bs bs.length ks.length r = ks ∧ Rdy bs rest (rItems bs bs.length ks.length r)
  | [], r, _, h => ⟨rfl, h⟩
  | k :: ks, r, hk, h => by
    have hk0 := hk k (by simp)
    have h1 : Rdy bs (itB k ++ (itsB ks ++ rest)) r := by
      unfold itsB at h ⊢
      rw [List.flatMap_cons, List.append_assoc] at h
      exact h
    obtain ⟨e1, h2⟩ := rdy_item k hk0.1 hk0.2.1 hk0.2.2 h1
    obtain ⟨e2, h3⟩ := rdy_items ks _ (fun x hx => hk x (by simp [hx])) h2
    rw [List.length_cons, gItems_back, rItems_back, e1, e2]
    exact ⟨rfl, h3⟩
def SameM : MsgV → MsgV → Prop
  | .hello a b, .hello c d => a = c ∧ b = d
  | .grant a b c, .grant d e f => a = d ∧ b = e ∧ c = f
  | .ask x, .ask y => x = y
  | .reply x, .reply y => x.slot = y.slot ∧ x.query = y.query ∧ x.shard = y.shard ∧ x.seq = y.seq ∧ x.worker = y.worker ∧ x.epoch = y.epoch ∧ x.items = y.items ∧ x.n = y.n ∧ x.fin = y.fin
  | .stop a b, .stop c d => a = c ∧ b = d
  | _, _ => False
theorem inR_bd {x lo hi : Int} (h : inR x lo hi = true) : lo ≤ x ∧ x ≤ hi := of_decide_eq_true h
theorem mayItem_bd {k : KV} (h : mayItem k = true) : 0 ≤ k.1 ∧ k.1 ≤ 4 ∧ k.2.size ≤ 48 := by
  unfold mayItem at h
  simp only [Bool.and_eq_true, decide_eq_true_eq] at h
  have h1 := inR_bd h.1
  have h2 := h.2
  unfold wordP at h2
  have h3 := size_4 k.2 (by omega)
  exact ⟨h1.1, h1.2, by omega⟩
theorem mayItems_bd {ks : List KV} (h : mayItems ks = true) : ks.length ≤ 5 ∧ ∀ k ∈ ks, 0 ≤ k.1 ∧ k.1 ≤ 4 ∧ k.2.size ≤ 48 := by
  unfold mayItems at h
  simp only [Bool.and_eq_true, decide_eq_true_eq] at h
  refine ⟨h.1, fun k hk => ?_⟩
  obtain ⟨i, hi, rfl⟩ := List.getElem_of_mem hk
  have h2 := h.2
  unfold fitI at h2
  rw [List.all_eq_true] at h2
  have h3 := h2 i (by simpa using hi)
  unfold stepI at h3
  simp only [Bool.and_eq_true] at h3
  rw [List.getD_eq_getElem?_getD, List.getElem?_eq_getElem hi] at h3
  exact mayItem_bd h3.1
theorem mayAfter_bd {f : Bool} {k : KV} (h : mayAfter f k = true) : 0 ≤ k.1 ∧ k.1 ≤ 4 ∧ k.2.size ≤ 48 := by
  unfold mayAfter at h
  cases f
  · simp only [Bool.false_eq_true, if_false] at h
    exact mayItem_bd h
  · simp only [if_true, Bool.and_eq_true, decide_eq_true_eq, List.isEmpty_iff] at h
    have : k.2.size = 0 := by
      have h2 := h.2
      rw [Lib.toList_data] at h2
      show k.2.data.size = 0
      rw [← Array.length_toList, h2]; rfl
    omega
end Go.Proofs.Ythboiklcjpnhbaa
/- msg: a message's frame is read as that message -/
namespace Go.Proofs.Ythboiklcjpnhbaa
open Go.RowKit
set_option linter.unusedVariables false
set_option maxRecDepth 20000
theorem frameB_eq (kd : Nat) (o : List Nat) : frameB kd o = (Cod.bytesOf (7 + o.length) 2 ++ (Cod.bytesOf kd 1 ++ o)) ++ Cod.bytesOf (Crc.sum ((Cod.bytesOf (7 + o.length) 2 ++ Cod.bytesOf kd 1) ++ o)) 4 := by
  unfold frameB sealB; simp only [List.append_assoc]
theorem inner_frame (kd : Nat) (o : List Nat) (L : Nat) (hL : L = o.length + 7) : inner (frameB kd o) L = Cod.bytesOf kd 1 ++ o := by
  unfold inner
  rw [frameB_eq, List.take_left' (by simp only [List.length_append, Cod.bytesOf_length]; omega), List.drop_left' (Cod.bytesOf_length _ _)]
theorem open_sealB (bs : List Nat) : openB (sealB bs) = true := by
  have hl : 4 ≤ (sealB bs).length := by rw [sealB_len]; omega
  unfold openB
  rw [decide_eq_true hl, Bool.true_and]
  refine decide_eq_true ?_
  rw [sealB_len, Nat.add_sub_cancel]
  unfold numN sealB
  rw [List.drop_left' rfl, List.take_left' rfl, List.take_of_length_le (by rw [Cod.bytesOf_length]; omega), Cod.numOf_bytesOf]
  exact Nat.mod_eq_of_lt (sum_lt9 _)
theorem shape_frameB (kd : Nat) (o : List Nat) (h : o.length ≤ 1017) : shapeB (frameB kd o) (frameB kd o).length = true := by
  unfold shapeB
  have h1 : numN (frameB kd o) 0 2 = 7 + o.length := by
    unfold numN
    rw [List.drop_zero, frameB_eq, List.append_assoc, List.take_left' (Cod.bytesOf_length _ _), Cod.numOf_bytesOf]
    have p2 : (256 : Nat) ^ 2 = 65536 := by decide
    exact Nat.mod_eq_of_lt (by omega)
  rw [h1, frameB_len]
  simp
  omega
theorem body_small (M : MsgV) (hm : mayM M = true) (hh : ∀ x, M = .reply x → x.items.length = x.n) : (bodyM M).length ≤ 1017 := by
  cases M with
  | hello a b => rw [show bodyM (.hello a b) = nsB [a, b] from rfl, nsB_len]; simp
  | grant a b c => rw [show bodyM (.grant a b c) = nsB [a, b, c] from rfl, nsB_len]; simp
  | ask x =>
    rw [show mayM (.ask x) = mayAsk x from rfl] at hm
    unfold mayAsk at hm
    simp only [Bool.and_eq_true, decide_eq_true_eq] at hm
    obtain ⟨⟨⟨⟨-, ht⟩, -⟩, -⟩, ha⟩ := hm
    have h1 := size_4 x.text ht.1
    have h2 := (mayAfter_bd ha).2.2
    simp only at h2
    have h3 := tB_len x.text (by omega)
    have h4 := itB_len (x.ad, x.aw) (by simp only; omega)
    rw [show bodyM (.ask x) = askB x from rfl]
    unfold askB
    simp only [List.length_append, nsB_len, n1_len, fB_len, h3, h4, List.length_cons, List.length_nil]
    omega
  | reply x =>
    rw [show mayM (.reply x) = mayReply x from rfl] at hm
    unfold mayReply at hm
    simp only [Bool.and_eq_true] at hm
    obtain ⟨h5, hk⟩ := mayItems_bd hm.2
    have h1 : ∀ ks : List KV, (∀ k ∈ ks, k.2.size ≤ 48) → (itsB ks).length ≤ 51 * ks.length := by
      intro ks hks
      unfold itsB
      induction ks with
      | nil => simp
      | cons k ks ih =>
        rw [List.flatMap_cons, List.length_append, itB_len k (by have := hks k (by simp); omega), List.length_cons]
        have := ih (fun x hx => hks x (by simp [hx]))
        have := hks k (by simp)
        omega
    have h2 := h1 x.items (fun k hk2 => (hk k hk2).2.2)
    rw [show bodyM (.reply x) = repB x from rfl]
    unfold repB
    simp only [List.length_append, nsB_len, n1_len, fB_len, List.length_cons, List.length_nil]
    omega
  | stop a b => rw [show bodyM (.stop a b) = nsB [a, b] from rfl, nsB_len]; simp
  | num k => cases hm
  | none => cases hm
theorem ns2 (a b : Int) (rest : List Nat) : nsB [a, b] ++ rest = n4 a ++ (n4 b ++ rest) := by simp [nsB]
theorem got_same (M M' : MsgV) (I : List Nat) (hI : I = Cod.bytesOf (kindM M) 1 ++ bodyM M) (hm : mayM M = true) (hh : ∀ x, M = .reply x → x.items.length = x.n) (h : GotM I I.length M') : SameM M M' := by
  have p1 : (256 : Nat) ^ 1 = 256 := by decide
  have r0 : Rdy I (Cod.bytesOf (kindM M) 1 ++ bodyM M) rs0 := ⟨[], by simpa using hI, rfl⟩
  obtain ⟨ek, r1⟩ := rdy_num (kindM M) 1 (by cases M <;> simp [kindM]) r0
  have ek : kdR I I.length = (kindM M : Int) := ek
  have r1 : Rdy I (bodyM M) (rs1 I.length) := r1
  clear r0
  unfold GotM at h
  rw [ek] at h
  cases M with
  | hello a b =>
    rw [show mayM (.hello a b) = mayHello a b from rfl] at hm
    unfold mayHello at hm
    simp only [Bool.and_eq_true] at hm
    have h1 := inR_bd hm.1; have h2 := inR_bd hm.2
    rw [if_pos (by simp [kindM])] at h
    have r1 : Rdy I (n4 a ++ (n4 b ++ [])) (rs1 I.length) := by rw [← ns2, List.append_nil]; exact r1
    obtain ⟨e1, r2⟩ := rdy_n4 a (by omega) (by omega) r1
    obtain ⟨e2, -⟩ := rdy_n4 b (by omega) (by omega) r2
    rw [e1, e2] at h
    subst h
    exact ⟨rfl, rfl⟩
  | grant a b c =>
    rw [show mayM (.grant a b c) = mayGrant a b c from rfl] at hm
    unfold mayGrant at hm
    simp only [Bool.and_eq_true] at hm
    have h1 := inR_bd hm.1.1; have h2 := inR_bd hm.1.2; have h3 := inR_bd hm.2
    rw [if_neg (by simp [kindM]), if_pos (by simp [kindM])] at h
    have r1 : Rdy I (n4 a ++ (n4 b ++ (n4 c ++ []))) (rs1 I.length) := by
      have e : bodyM (.grant a b c) = n4 a ++ (n4 b ++ (n4 c ++ [])) := by simp [bodyM, nsB]
      rw [← e]; exact r1
    obtain ⟨e1, r2⟩ := rdy_n4 a (by omega) (by omega) r1
    obtain ⟨e2, r3⟩ := rdy_n4 b (by omega) (by omega) r2
    obtain ⟨e3, -⟩ := rdy_n4 c (by omega) (by omega) r3
    rw [e1, e2, e3] at h
    subst h
    exact ⟨rfl, rfl, rfl⟩
  | ask x =>
    rw [show mayM (.ask x) = mayAsk x from rfl] at hm
    unfold mayAsk at hm
    simp only [Bool.and_eq_true, decide_eq_true_eq] at hm
    obtain ⟨⟨⟨⟨⟨⟨⟨⟨b0, b1⟩, b2⟩, b3⟩, b4⟩, b5⟩, b6⟩, b7⟩, b8⟩ := hm
    have c0 := inR_bd b0; have c1 := inR_bd b1; have c2 := inR_bd b2; have c3 := inR_bd b3; have c4 := inR_bd b4; have c6 := inR_bd b6; have c7 := inR_bd b7
    have c5 := size_4 x.text b5.1
    have c8 := mayAfter_bd b8
    simp only at c8
    rw [if_neg (by simp [kindM]), if_neg (by simp [kindM]), if_pos (by simp [kindM])] at h
    have r1 : Rdy I (n4 x.slot ++ (n4 x.query ++ (n4 x.shard ++ (n4 x.seq ++ (n4 x.epoch ++ (tB x.text ++ (n1 x.k ++ (n1 x.batch ++ (fB x.first ++ (itB (x.ad, x.aw) ++ [])))))))))) (rs1 I.length) := by
      have e : bodyM (.ask x) = n4 x.slot ++ (n4 x.query ++ (n4 x.shard ++ (n4 x.seq ++ (n4 x.epoch ++ (tB x.text ++ (n1 x.k ++ (n1 x.batch ++ (fB x.first ++ (itB (x.ad, x.aw) ++ []))))))))) := by simp [bodyM, askB, nsB]
      rw [← e]; exact r1
    obtain ⟨e0, r2⟩ := rdy_n4 x.slot (by omega) (by omega) r1
    obtain ⟨e1, r3⟩ := rdy_n4 x.query (by omega) (by omega) r2
    obtain ⟨e2, r4⟩ := rdy_n4 x.shard (by omega) (by omega) r3
    obtain ⟨e3, r5⟩ := rdy_n4 x.seq (by omega) (by omega) r4
    obtain ⟨e4, r6⟩ := rdy_n4 x.epoch (by omega) (by omega) r5
    obtain ⟨e5, r7⟩ := rdy_text x.text (by omega) r6
    obtain ⟨e6, r8⟩ := rdy_n1 x.k (by omega) (by omega) r7
    obtain ⟨e7, r9⟩ := rdy_n1 x.batch (by omega) (by omega) r8
    obtain ⟨e8, r10⟩ := rdy_flag x.first r9
    obtain ⟨e9, -⟩ := rdy_item (x.ad, x.aw) (by simp only; omega) (by simp only; omega) (by simp only; omega) r10
    subst h
    show x = gAsk I I.length (rs1 I.length)
    unfold gAsk
    rw [e0, e1, e2, e3, e4, e5, e6, e7, e8, e9]
  | reply x =>
    have hx := hh x rfl
    rw [show mayM (.reply x) = mayReply x from rfl] at hm
    unfold mayReply at hm
    simp only [Bool.and_eq_true] at hm
    obtain ⟨⟨⟨⟨⟨⟨b0, b1⟩, b2⟩, b3⟩, b4⟩, b5⟩, b6⟩ := hm
    have c0 := inR_bd b0; have c1 := inR_bd b1; have c2 := inR_bd b2; have c3 := inR_bd b3; have c4 := inR_bd b4; have c5 := inR_bd b5
    obtain ⟨c6, c7⟩ := mayItems_bd b6
    rw [if_neg (by simp [kindM]), if_neg (by simp [kindM]), if_neg (by simp [kindM]), if_pos (by simp [kindM])] at h
    have r1 : Rdy I (n4 x.slot ++ (n4 x.query ++ (n4 x.shard ++ (n4 x.seq ++ (n4 x.worker ++ (n4 x.epoch ++ (n1 (x.items.length : Int) ++ (itsB x.items ++ (fB x.fin ++ []))))))))) (rs1 I.length) := by
      have e : bodyM (.reply x) = n4 x.slot ++ (n4 x.query ++ (n4 x.shard ++ (n4 x.seq ++ (n4 x.worker ++ (n4 x.epoch ++ (n1 (x.items.length : Int) ++ (itsB x.items ++ (fB x.fin ++ [])))))))) := by simp [bodyM, repB, nsB]
      rw [← e]; exact r1
    obtain ⟨e0, r2⟩ := rdy_n4 x.slot (by omega) (by omega) r1
    obtain ⟨e1, r3⟩ := rdy_n4 x.query (by omega) (by omega) r2
    obtain ⟨e2, r4⟩ := rdy_n4 x.shard (by omega) (by omega) r3
    obtain ⟨e3, r5⟩ := rdy_n4 x.seq (by omega) (by omega) r4
    obtain ⟨e4, r6⟩ := rdy_n4 x.worker (by omega) (by omega) r5
    obtain ⟨e5, r7⟩ := rdy_n4 x.epoch (by omega) (by omega) r6
    obtain ⟨e6, r8⟩ := rdy_n1 (x.items.length : Int) (by omega) (by omega) r7
    obtain ⟨e7, r9⟩ := rdy_items x.items _ (fun k hk => by have := c7 k hk; omega) r8
    obtain ⟨e8, -⟩ := rdy_flag x.fin r9
    obtain ⟨ia, m, ic, hmr, rfl⟩ := h
    unfold mRep at hmr
    rw [e6] at hmr
    obtain rfl : m = x.items.length := by omega
    exact ⟨e0.symm, e1.symm, e2.symm, e3.symm, e4.symm, e5.symm, e7.symm, hx.symm, e8.symm⟩
  | stop a b =>
    rw [show mayM (.stop a b) = mayStop a b from rfl] at hm
    unfold mayStop at hm
    simp only [Bool.and_eq_true] at hm
    have h1 := inR_bd hm.1; have h2 := inR_bd hm.2
    rw [if_neg (by simp [kindM]), if_neg (by simp [kindM]), if_neg (by simp [kindM]), if_neg (by simp [kindM]), if_pos (by simp [kindM])] at h
    have r1 : Rdy I (n4 a ++ (n4 b ++ [])) (rs1 I.length) := by rw [← ns2, List.append_nil]; exact r1
    obtain ⟨e1, r2⟩ := rdy_n4 a (by omega) (by omega) r1
    obtain ⟨e2, -⟩ := rdy_n4 b (by omega) (by omega) r2
    rw [e1, e2] at h
    subst h
    exact ⟨rfl, rfl⟩
  | num k => cases hm
  | none => cases hm
theorem SameM.may {M M' : MsgV} (h : SameM M M') : mayM M' = mayM M := by
  cases M <;> cases M' <;> first | exact h.elim | skip
  · obtain ⟨rfl, rfl⟩ := h; rfl
  · obtain ⟨rfl, rfl, rfl⟩ := h; rfl
  · have h : _ = _ := h; subst h; rfl
  · obtain ⟨h1, h2, h3, h4, h5, h6, h7, h8, h9⟩ := h
    show mayReply _ = mayReply _
    unfold mayReply
    rw [h1, h2, h3, h4, h5, h6, h7]
  · obtain ⟨rfl, rfl⟩ := h; rfl
theorem SameM.frame {M M' : MsgV} (h : SameM M M') : frameM M' = frameM M := by
  cases M <;> cases M' <;> first | exact h.elim | skip
  · obtain ⟨rfl, rfl⟩ := h; rfl
  · obtain ⟨rfl, rfl, rfl⟩ := h; rfl
  · have h : _ = _ := h; subst h; rfl
  · obtain ⟨h1, h2, h3, h4, h5, h6, h7, h8, h9⟩ := h
    show frameB 4 (repB _) = frameB 4 (repB _)
    unfold repB
    rw [h1, h2, h3, h4, h5, h6, h7, h9]
  · obtain ⟨rfl, rfl⟩ := h; rfl
def DecOk (w : World) (M : MsgV) (e : Ending) (w' : World) : Prop := ∃ M', e = .returned (.tuple #[valM M', .int .i64 0]) ∧ SameM M M' ∧ heldM w' M' ∧ smallM M' ∧ Below w.heap.size w w'
theorem heldM.items {w : World} {M : MsgV} (h : heldM w M) : ∀ x, M = .reply x → x.items.length = x.n := by
  rintro x rfl
  exact h.1.len
theorem decode_back (M : MsgV) (a : Option Addr) (n cap : Nat) (w : World) (h : HoldsB w a n (frameM M)) (hc : n ≤ cap) (hm : mayM M = true) (hh : ∀ x, M = .reply x → x.items.length = x.n) :
    Calls Try.prog 25 #[.slice a n cap] w (DecOk w M) := by
  have hl := h.len
  have hb := body_small M hm hh
  have hfl := frameM_len M
  refine (decode_any a n cap (frameM M) w h (by omega) hc).mono ?_
  rintro e w' ⟨hB, ⟨hs, -⟩ | ⟨hs, ho, -⟩ | ⟨hs, ho, M', hg, hH, hS, hr⟩⟩
  · rw [← hl] at hs
    have := shape_frameB (kindM M) (bodyM M) hb
    unfold frameM at hs
    rw [this] at hs; cases hs
  · have : openB (frameM M) = true := open_sealB _
    rw [this] at ho; cases ho
  · have e1 : inner (frameM M) n = Cod.bytesOf (kindM M) 1 ++ bodyM M := inner_frame _ _ n (by rw [← hl, hfl])
    have e2 : n - 6 = (inner (frameM M) n).length := by rw [e1]; simp [Cod.bytesOf_length]; omega
    rw [e2] at hg
    have hs2 := got_same M M' _ e1 hm hh hg
    rcases hr with ⟨-, -, he⟩ | ⟨hno, -⟩
    · exact ⟨M', he, hs2, hH, hS, hB⟩
    · exact absurd ⟨hs2.may.trans hm, hs2.frame⟩ hno
end Go.Proofs.Ythboiklcjpnhbaa
/- msg: messages held against each other (by gen/mc1.py) -/
namespace Go.Proofs.Ythboiklcjpnhbaa
open Go.RowKit
set_option linter.unusedVariables false
set_option maxRecDepth 20000
theorem ssM (x : ByteArray) : (x.toList == x.toList) = true := by simp
theorem toList_injM {a b : ByteArray} (h : a.toList = b.toList) : a = b := toList_inj h
theorem AskP.extM {x y : AskP} (h0 : x.slot = y.slot) (h1 : x.query = y.query) (h2 : x.shard = y.shard) (h3 : x.seq = y.seq) (h4 : x.epoch = y.epoch) (h5 : x.text.toList = y.text.toList) (h6 : x.k = y.k) (h7 : x.batch = y.batch) (h8 : x.first = y.first) (h9 : x.ad = y.ad) (h10 : x.aw.toList = y.aw.toList) : x = y := by
  obtain ⟨a0, a1, a2, a3, a4, a5, a6, a7, a8, a9, a10⟩ := x
  obtain ⟨b0, b1, b2, b3, b4, b5, b6, b7, b8, b9, b10⟩ := y
  simp only at *
  have h5 := toList_inj h5
  have h10 := toList_inj h10
  subst h0 h1 h2 h3 h4 h5 h6 h7 h8 h9 h10
  rfl
theorem askM_unlike {x y : AskP} (h : x ≠ y) (w : World) : (Op.equalIn 10000 29 (.agg #[.int .i64 x.slot, .int .i64 x.query, .int .i64 x.shard, .int .i64 x.seq, .int .i64 x.epoch, .string x.text, .int .i64 x.k, .int .i64 x.batch, .bool x.first, .int .i64 x.ad, .string x.aw]) (.agg #[.int .i64 y.slot, .int .i64 y.query, .int .i64 y.shard, .int .i64 y.seq, .int .i64 y.epoch, .string y.text, .int .i64 y.k, .int .i64 y.batch, .bool y.first, .int .i64 y.ad, .string y.aw])).run Try.prog w = .ok false w := by
  go_simp
  intro h0 h1 h2 h3 h4 h5 h6 h7 h8 h9 h10
  exact h (AskP.extM h0 h1 h2 h3 h4 h5 h6 h7 h8 h9 h10)
theorem askM_alike (x : AskP) (w : World) : (Op.equalIn 10000 29 (.agg #[.int .i64 x.slot, .int .i64 x.query, .int .i64 x.shard, .int .i64 x.seq, .int .i64 x.epoch, .string x.text, .int .i64 x.k, .int .i64 x.batch, .bool x.first, .int .i64 x.ad, .string x.aw]) (.agg #[.int .i64 x.slot, .int .i64 x.query, .int .i64 x.shard, .int .i64 x.seq, .int .i64 x.epoch, .string x.text, .int .i64 x.k, .int .i64 x.batch, .bool x.first, .int .i64 x.ad, .string x.aw])).run Try.prog w = .ok true w := by
  have f5 := ssM x.text
  have f10 := ssM x.aw
  go_simp
theorem helloM_alike (a b : Int) (w : World) : (Op.equalIn 10000 23 (.agg #[.int .i64 a, .int .i64 b]) (.agg #[.int .i64 a, .int .i64 b])).run Try.prog w = .ok true w := by
  go_simp
theorem grantM_alike (a b c : Int) (w : World) : (Op.equalIn 10000 25 (.agg #[.int .i64 a, .int .i64 b, .int .i64 c]) (.agg #[.int .i64 a, .int .i64 b, .int .i64 c])).run Try.prog w = .ok true w := by
  go_simp
theorem stopM_alike (a b : Int) (w : World) : (Op.equalIn 10000 34 (.agg #[.int .i64 a, .int .i64 b]) (.agg #[.int .i64 a, .int .i64 b])).run Try.prog w = .ok true w := by
  go_simp
set_option maxHeartbeats 1600000 in
theorem sameReply_yes (x : RepP) (ia : Option Addr) (ic : Nat) (w : World) (h1 : HoldsK w x.ia x.n x.items) (h2 : HoldsK w ia x.n x.items) (hn : x.n ≤ 1048576) :
    Calls Try.prog 52 #[.agg #[.int .i64 x.slot, .int .i64 x.query, .int .i64 x.shard, .int .i64 x.seq, .int .i64 x.worker, .int .i64 x.epoch, .slice x.ia x.n x.ic, .bool x.fin], .agg #[.int .i64 x.slot, .int .i64 x.query, .int .i64 x.shard, .int .i64 x.seq, .int .i64 x.worker, .int .i64 x.epoch, .slice ia x.n ic, .bool x.fin]] w fun e w' => e = .returned (.bool true) ∧ Below w.heap.size w w' := by
  have BX := Lib.hid (show Below w.heap.size w ((w.alloc (.cells #[.int .i64 x.slot, .int .i64 x.query, .int .i64 x.shard, .int .i64 x.seq, .int .i64 x.worker, .int .i64 x.epoch, .slice x.ia x.n x.ic, .bool x.fin] 32)).alloc (.cells #[.int .i64 x.slot, .int .i64 x.query, .int .i64 x.shard, .int .i64 x.seq, .int .i64 x.worker, .int .i64 x.epoch, .slice ia x.n ic, .bool x.fin] 32)) from by
    repeat' (first | exact Below.refl _ _ | refine Below.alloc ?_ (by simp <;> omega) _))
  have CI := Lib.hid (fun w' (hb : Below w.heap.size w w') => sameItems_yes x.ia ia x.n x.ic ic x.items w' (h1.below hb) (h2.below hb) (by omega))
  have e0 : (x.slot == x.slot) = true := by simp
  have e1 : (x.query == x.query) = true := by simp
  have e2 : (x.shard == x.shard) = true := by simp
  have e3 : (x.seq == x.seq) = true := by simp
  have e4 : (x.worker == x.worker) = true := by simp
  have e5 : (x.epoch == x.epoch) = true := by simp
  have e6 : (x.fin == x.fin) = true := by simp
  have C2 := Lib.hid (CI.out _ BX.out)
  clear h1 h2 CI
  go_enter Try.func52, Try.ntmps52
  go_wp2_with fail
  refine C2.out.mono ?_
  rintro e w' ⟨rfl, hb⟩
  have B := Lib.hid (BX.out.trans (hb.mono BX.out.size))
  clear hb C2
  go_wp2_with fail
  go_ret
  exact ⟨rfl, B.out⟩
set_option maxHeartbeats 1600000 in
theorem sameHelloM (a b : Int) (w : World) : Calls Try.prog 27 #[.iface 23 (.agg #[.int .i64 a, .int .i64 b]), .iface 23 (.agg #[.int .i64 a, .int .i64 b])] w fun e w' => e = .returned (.bool true) ∧ Below w.heap.size w w' := by
  have tHello := taHelloHello a b
  have BX := Lib.hid (show Below w.heap.size w ((w.alloc (.cells #[.int .i64 a, .int .i64 b] 23)).alloc (.cells #[.int .i64 a, .int .i64 b] 23)) from by
    repeat' (first | exact Below.refl _ _ | refine Below.alloc ?_ (by simp <;> omega) _))
  have heq := fun w => helloM_alike a b w
  go_enter Try.func27, Try.ntmps27
  go_wp2_with fail
  go_ret
  exact ⟨rfl, BX.out⟩
set_option maxHeartbeats 1600000 in
theorem sameGrantM (a b c : Int) (w : World) : Calls Try.prog 27 #[.iface 25 (.agg #[.int .i64 a, .int .i64 b, .int .i64 c]), .iface 25 (.agg #[.int .i64 a, .int .i64 b, .int .i64 c])] w fun e w' => e = .returned (.bool true) ∧ Below w.heap.size w w' := by
  have tHello := taGrantHello a b c
  have tGrant := taGrantGrant a b c
  have BX := Lib.hid (show Below w.heap.size w ((w.alloc (.cells #[.int .i64 a, .int .i64 b, .int .i64 c] 25)).alloc (.cells #[.int .i64 a, .int .i64 b, .int .i64 c] 25)) from by
    repeat' (first | exact Below.refl _ _ | refine Below.alloc ?_ (by simp <;> omega) _))
  have heq := fun w => grantM_alike a b c w
  go_enter Try.func27, Try.ntmps27
  go_wp2_with fail
  go_ret
  exact ⟨rfl, BX.out⟩
set_option maxHeartbeats 1600000 in
theorem sameAskM (x : AskP) (w : World) : Calls Try.prog 27 #[.iface 29 (.agg #[.int .i64 x.slot, .int .i64 x.query, .int .i64 x.shard, .int .i64 x.seq, .int .i64 x.epoch, .string x.text, .int .i64 x.k, .int .i64 x.batch, .bool x.first, .int .i64 x.ad, .string x.aw]), .iface 29 (.agg #[.int .i64 x.slot, .int .i64 x.query, .int .i64 x.shard, .int .i64 x.seq, .int .i64 x.epoch, .string x.text, .int .i64 x.k, .int .i64 x.batch, .bool x.first, .int .i64 x.ad, .string x.aw])] w fun e w' => e = .returned (.bool true) ∧ Below w.heap.size w w' := by
  have tHello := taAskHello x
  have tGrant := taAskGrant x
  have tAsk := taAskAsk x
  have BX := Lib.hid (show Below w.heap.size w ((w.alloc (.cells #[.int .i64 x.slot, .int .i64 x.query, .int .i64 x.shard, .int .i64 x.seq, .int .i64 x.epoch, .string x.text, .int .i64 x.k, .int .i64 x.batch, .bool x.first, .int .i64 x.ad, .string x.aw] 29)).alloc (.cells #[.int .i64 x.slot, .int .i64 x.query, .int .i64 x.shard, .int .i64 x.seq, .int .i64 x.epoch, .string x.text, .int .i64 x.k, .int .i64 x.batch, .bool x.first, .int .i64 x.ad, .string x.aw] 29)) from by
    repeat' (first | exact Below.refl _ _ | refine Below.alloc ?_ (by simp <;> omega) _))
  have heq := fun w => askM_alike x w
  go_enter Try.func27, Try.ntmps27
  go_wp2_with fail
  go_ret
  exact ⟨rfl, BX.out⟩
set_option maxHeartbeats 1600000 in
theorem sameReplyM (x : RepP) (ia : Option Addr) (ic : Nat) (w : World) (h1 : HoldsK w x.ia x.n x.items) (h2 : HoldsK w ia x.n x.items) (hn : x.n ≤ 1048576) : Calls Try.prog 27 #[.iface 32 (.agg #[.int .i64 x.slot, .int .i64 x.query, .int .i64 x.shard, .int .i64 x.seq, .int .i64 x.worker, .int .i64 x.epoch, .slice x.ia x.n x.ic, .bool x.fin]), .iface 32 (.agg #[.int .i64 x.slot, .int .i64 x.query, .int .i64 x.shard, .int .i64 x.seq, .int .i64 x.worker, .int .i64 x.epoch, .slice ia x.n ic, .bool x.fin])] w fun e w' => e = .returned (.bool true) ∧ Below w.heap.size w w' := by
  have tHello := taReplyHello x
  have tGrant := taReplyGrant x
  have tAsk := taReplyAsk x
  have tReply := taReplyReply x
  have tB := taReplyReply ⟨x.slot, x.query, x.shard, x.seq, x.worker, x.epoch, ia, x.n, ic, x.items, x.fin⟩
  simp only at tB
  have BX := Lib.hid (show Below w.heap.size w ((w.alloc (.cells #[.int .i64 x.slot, .int .i64 x.query, .int .i64 x.shard, .int .i64 x.seq, .int .i64 x.worker, .int .i64 x.epoch, .slice x.ia x.n x.ic, .bool x.fin] 32)).alloc (.cells #[.int .i64 x.slot, .int .i64 x.query, .int .i64 x.shard, .int .i64 x.seq, .int .i64 x.worker, .int .i64 x.epoch, .slice ia x.n ic, .bool x.fin] 32)) from by
    repeat' (first | exact Below.refl _ _ | refine Below.alloc ?_ (by simp <;> omega) _))
  have CR := Lib.hid (sameReply_yes x ia ic _ (h1.below BX.out) (h2.below BX.out) hn)
  clear h1 h2
  go_enter Try.func27, Try.ntmps27
  go_wp2_with fail
  refine CR.out.mono ?_
  rintro e w' ⟨rfl, hb⟩
  have B := Lib.hid (BX.out.trans (hb.mono BX.out.size))
  clear hb CR
  go_wp2_with fail
  go_ret
  exact ⟨rfl, B.out⟩
set_option maxHeartbeats 1600000 in
theorem sameStopM (a b : Int) (w : World) : Calls Try.prog 27 #[.iface 34 (.agg #[.int .i64 a, .int .i64 b]), .iface 34 (.agg #[.int .i64 a, .int .i64 b])] w fun e w' => e = .returned (.bool true) ∧ Below w.heap.size w w' := by
  have tHello := taStopHello a b
  have tGrant := taStopGrant a b
  have tAsk := taStopAsk a b
  have tReply := taStopReply a b
  have tStop := taStopStop a b
  have BX := Lib.hid (show Below w.heap.size w ((w.alloc (.cells #[.int .i64 a, .int .i64 b] 34)).alloc (.cells #[.int .i64 a, .int .i64 b] 34)) from by
    repeat' (first | exact Below.refl _ _ | refine Below.alloc ?_ (by simp <;> omega) _))
  have heq := fun w => stopM_alike a b w
  go_enter Try.func27, Try.ntmps27
  go_wp2_with fail
  go_ret
  exact ⟨rfl, BX.out⟩
set_option maxHeartbeats 1600000 in
theorem otherHelloM (a b : Int) (V : Value) (w : World) (hV : ∀ w, (Instr.typeAssert V 20 23 true).run Try.prog w = .ok (.tuple #[.agg #[.int .i64 0, .int .i64 0], .bool false]) w) : Calls Try.prog 27 #[.iface 23 (.agg #[.int .i64 a, .int .i64 b]), V] w fun e w' => e = .returned (.bool false) ∧ Below w.heap.size w w' := by
  have tHello := taHelloHello a b
  have BX := Lib.hid (show Below w.heap.size w ((w.alloc (.cells #[.int .i64 a, .int .i64 b] 23)).alloc (.cells #[.int .i64 0, .int .i64 0] 23)) from by
    repeat' (first | exact Below.refl _ _ | refine Below.alloc ?_ (by simp <;> omega) _))
  go_enter Try.func27, Try.ntmps27
  go_wp2_with fail
  go_ret
  exact ⟨rfl, BX.out⟩
set_option maxHeartbeats 1600000 in
theorem otherGrantM (a b c : Int) (V : Value) (w : World) (hV : ∀ w, (Instr.typeAssert V 20 25 true).run Try.prog w = .ok (.tuple #[.agg #[.int .i64 0, .int .i64 0, .int .i64 0], .bool false]) w) : Calls Try.prog 27 #[.iface 25 (.agg #[.int .i64 a, .int .i64 b, .int .i64 c]), V] w fun e w' => e = .returned (.bool false) ∧ Below w.heap.size w w' := by
  have tHello := taGrantHello a b c
  have tGrant := taGrantGrant a b c
  have BX := Lib.hid (show Below w.heap.size w ((w.alloc (.cells #[.int .i64 a, .int .i64 b, .int .i64 c] 25)).alloc (.cells #[.int .i64 0, .int .i64 0, .int .i64 0] 25)) from by
    repeat' (first | exact Below.refl _ _ | refine Below.alloc ?_ (by simp <;> omega) _))
  go_enter Try.func27, Try.ntmps27
  go_wp2_with fail
  go_ret
  exact ⟨rfl, BX.out⟩
set_option maxHeartbeats 1600000 in
theorem otherAskM (x : AskP) (V : Value) (w : World) (hV : ∀ w, (Instr.typeAssert V 20 29 true).run Try.prog w = .ok (.tuple #[.agg #[.int .i64 0, .int .i64 0, .int .i64 0, .int .i64 0, .int .i64 0, .string ⟨#[]⟩, .int .i64 0, .int .i64 0, .bool false, .int .i64 0, .string ⟨#[]⟩], .bool false]) w) : Calls Try.prog 27 #[.iface 29 (.agg #[.int .i64 x.slot, .int .i64 x.query, .int .i64 x.shard, .int .i64 x.seq, .int .i64 x.epoch, .string x.text, .int .i64 x.k, .int .i64 x.batch, .bool x.first, .int .i64 x.ad, .string x.aw]), V] w fun e w' => e = .returned (.bool false) ∧ Below w.heap.size w w' := by
  have tHello := taAskHello x
  have tGrant := taAskGrant x
  have tAsk := taAskAsk x
  have BX := Lib.hid (show Below w.heap.size w ((w.alloc (.cells #[.int .i64 x.slot, .int .i64 x.query, .int .i64 x.shard, .int .i64 x.seq, .int .i64 x.epoch, .string x.text, .int .i64 x.k, .int .i64 x.batch, .bool x.first, .int .i64 x.ad, .string x.aw] 29)).alloc (.cells #[.int .i64 0, .int .i64 0, .int .i64 0, .int .i64 0, .int .i64 0, .string ⟨#[]⟩, .int .i64 0, .int .i64 0, .bool false, .int .i64 0, .string ⟨#[]⟩] 29)) from by
    repeat' (first | exact Below.refl _ _ | refine Below.alloc ?_ (by simp <;> omega) _))
  go_enter Try.func27, Try.ntmps27
  go_wp2_with fail
  go_ret
  exact ⟨rfl, BX.out⟩
set_option maxHeartbeats 1600000 in
theorem otherReplyM (x : RepP) (V : Value) (w : World) (hV : ∀ w, (Instr.typeAssert V 20 32 true).run Try.prog w = .ok (.tuple #[.agg #[.int .i64 0, .int .i64 0, .int .i64 0, .int .i64 0, .int .i64 0, .int .i64 0, .slice none 0 0, .bool false], .bool false]) w) : Calls Try.prog 27 #[.iface 32 (.agg #[.int .i64 x.slot, .int .i64 x.query, .int .i64 x.shard, .int .i64 x.seq, .int .i64 x.worker, .int .i64 x.epoch, .slice x.ia x.n x.ic, .bool x.fin]), V] w fun e w' => e = .returned (.bool false) ∧ Below w.heap.size w w' := by
  have tHello := taReplyHello x
  have tGrant := taReplyGrant x
  have tAsk := taReplyAsk x
  have tReply := taReplyReply x
  have BX := Lib.hid (show Below w.heap.size w ((w.alloc (.cells #[.int .i64 x.slot, .int .i64 x.query, .int .i64 x.shard, .int .i64 x.seq, .int .i64 x.worker, .int .i64 x.epoch, .slice x.ia x.n x.ic, .bool x.fin] 32)).alloc (.cells #[.int .i64 0, .int .i64 0, .int .i64 0, .int .i64 0, .int .i64 0, .int .i64 0, .slice none 0 0, .bool false] 32)) from by
    repeat' (first | exact Below.refl _ _ | refine Below.alloc ?_ (by simp <;> omega) _))
  go_enter Try.func27, Try.ntmps27
  go_wp2_with fail
  go_ret
  exact ⟨rfl, BX.out⟩
set_option maxHeartbeats 1600000 in
theorem otherStopM (a b : Int) (V : Value) (w : World) (hV : ∀ w, (Instr.typeAssert V 20 34 true).run Try.prog w = .ok (.tuple #[.agg #[.int .i64 0, .int .i64 0], .bool false]) w) : Calls Try.prog 27 #[.iface 34 (.agg #[.int .i64 a, .int .i64 b]), V] w fun e w' => e = .returned (.bool false) ∧ Below w.heap.size w w' := by
  have tHello := taStopHello a b
  have tGrant := taStopGrant a b
  have tAsk := taStopAsk a b
  have tReply := taStopReply a b
  have tStop := taStopStop a b
  have BX := Lib.hid (show Below w.heap.size w ((w.alloc (.cells #[.int .i64 a, .int .i64 b] 34)).alloc (.cells #[.int .i64 0, .int .i64 0] 34)) from by
    repeat' (first | exact Below.refl _ _ | refine Below.alloc ?_ (by simp <;> omega) _))
  go_enter Try.func27, Try.ntmps27
  go_wp2_with fail
  go_ret
  exact ⟨rfl, BX.out⟩
set_option maxHeartbeats 1600000 in
theorem unlikeAskM (x y : AskP) (h : x ≠ y) (w : World) : Calls Try.prog 27 #[.iface 29 (.agg #[.int .i64 x.slot, .int .i64 x.query, .int .i64 x.shard, .int .i64 x.seq, .int .i64 x.epoch, .string x.text, .int .i64 x.k, .int .i64 x.batch, .bool x.first, .int .i64 x.ad, .string x.aw]), .iface 29 (.agg #[.int .i64 y.slot, .int .i64 y.query, .int .i64 y.shard, .int .i64 y.seq, .int .i64 y.epoch, .string y.text, .int .i64 y.k, .int .i64 y.batch, .bool y.first, .int .i64 y.ad, .string y.aw])] w fun e w' => e = .returned (.bool false) ∧ Below w.heap.size w w' := by
  have tHello := taAskHello x
  have tGrant := taAskGrant x
  have tAsk := taAskAsk x
  have tY := taAskAsk y
  have heq := fun w => askM_unlike h w
  have BX := Lib.hid (show Below w.heap.size w ((w.alloc (.cells #[.int .i64 x.slot, .int .i64 x.query, .int .i64 x.shard, .int .i64 x.seq, .int .i64 x.epoch, .string x.text, .int .i64 x.k, .int .i64 x.batch, .bool x.first, .int .i64 x.ad, .string x.aw] 29)).alloc (.cells #[.int .i64 y.slot, .int .i64 y.query, .int .i64 y.shard, .int .i64 y.seq, .int .i64 y.epoch, .string y.text, .int .i64 y.k, .int .i64 y.batch, .bool y.first, .int .i64 y.ad, .string y.aw] 29)) from by
    repeat' (first | exact Below.refl _ _ | refine Below.alloc ?_ (by simp <;> omega) _))
  clear h
  go_enter Try.func27, Try.ntmps27
  go_wp2_with fail
  go_ret
  exact ⟨rfl, BX.out⟩
theorem sameM_yes (M M' : MsgV) (w : World) (h : SameM M M') (h1 : heldM w M) (h2 : heldM w M') (hs : smallM M) :
    Calls Try.prog 27 #[valM M, valM M'] w fun e w' => e = .returned (.bool true) ∧ Below w.heap.size w w' := by
  cases M <;> cases M' <;> first | exact h.elim | skip
  · obtain ⟨rfl, rfl⟩ := h; exact sameHelloM _ _ w
  · obtain ⟨rfl, rfl, rfl⟩ := h; exact sameGrantM _ _ _ w
  · have h : _ = _ := h; subst h; exact sameAskM _ w
  · rename_i x y
    obtain ⟨a0, a1, a2, a3, a4, a5, a6, a7, a8, a9, a10⟩ := y
    obtain ⟨e0, e1, e2, e3, e4, e5, e6, e7, e8⟩ := h
    simp only at e0 e1 e2 e3 e4 e5 e6 e7 e8
    subst e0 e1 e2 e3 e4 e5 e6 e7 e8
    exact sameReplyM x a6 a8 w h1.1 h2.1 hs.2
  · obtain ⟨rfl, rfl⟩ := h; exact sameStopM _ _ w
theorem SameM.symm {M M' : MsgV} (h : SameM M M') : SameM M' M := by
  cases M <;> cases M' <;> first | exact h.elim | skip
  · exact ⟨h.1.symm, h.2.symm⟩
  · exact ⟨h.1.symm, h.2.1.symm, h.2.2.symm⟩
  · exact Eq.symm h
  · obtain ⟨h1, h2, h3, h4, h5, h6, h7, h8, h9⟩ := h
    exact ⟨h1.symm, h2.symm, h3.symm, h4.symm, h5.symm, h6.symm, h7.symm, h8.symm, h9.symm⟩
  · exact ⟨h.1.symm, h.2.symm⟩
end Go.Proofs.Ythboiklcjpnhbaa
/- are there more items than are gone through? (split from Rk6) -/
namespace Go.Proofs.Ythboiklcjpnhbaa
open Go.RowKit
set_option linter.unusedVariables false
set_option maxRecDepth 20000
def smallK (ks : List KV) : Prop := ∀ k ∈ ks, k.2.size ≤ 100
def greatKB (ks : List KV) : Bool := decide (80 < ks.length ∨ ∃ k ∈ ks, 100 < k.2.size)
theorem greatK_no_iff {ks : List KV} : greatKB ks = false ↔ ks.length ≤ 80 ∧ smallK ks := by
  unfold greatKB smallK
  rw [decide_eq_false_iff_not]
  constructor
  · intro h
    refine ⟨by omega, fun k hk => ?_⟩
    rcases Nat.lt_or_ge 100 k.2.size with h2 | h2
    · exact absurd (Or.inr ⟨k, hk, h2⟩) h
    · exact h2
  · rintro ⟨h1, h2⟩ (h | ⟨k, hk, h3⟩)
    · omega
    · have := h2 k hk; omega
theorem greatK_any (a : Option Addr) (n cap : Nat) (ks : List KV) (w : World) (hh : HoldsK w a n ks) (hn : n ≤ 9223372036854775807) (hx : ∀ k ∈ ks, k.2.size ≤ 9223372036854775807) :
    Calls Try.prog 32 #[.slice a n cap] w fun e w' => e = .returned (.bool (greatKB ks)) ∧ w = w' := by
  have hl := hh.len
  obtain ⟨g, hg'⟩ : ∃ g, greatKB ks = g := ⟨_, rfl⟩
  have hg : g = true ↔ (80 < ks.length ∨ ∃ k ∈ ks, 100 < k.2.size) := by rw [← hg']; exact decide_eq_true_iff
  rw [hg']
  clear hg'
  have HG := Lib.hid hg; have HX := Lib.hid hx; have HH := Lib.hid hh
  clear hg hx hh
  by_cases h1 : 80 < n
  · have hgt : g = true := HG.out.2 (Or.inl (by omega))
    subst hgt
    have h2 : ¬ n ≤ 80 := by omega
    go_enter Try.func32, Try.ntmps32
    go_wp2_with fail
    go_loop [3] (fun c => c = .int .i64 0) (fun _ => 0)
    case atStart => exact rfl
    case round =>
      subst hrel
      go_wp2_with fail
      go_ret
      exact ⟨ret_bool (by simp <;> omega), rfl⟩
  have h2 : n ≤ 80 := by omega
  go_enter Try.func32, Try.ntmps32
  go_wp2_with fail
  go_loop [3] (fun c => ∃ i : Nat, i ≤ n ∧ c = .int .i64 i ∧ Hid (∀ j, j < i → (ks.getD j k0).2.size ≤ 100)) (fun c => n - (intOf c).toNat)
  case atStart => exact ⟨0, by omega, rfl, Lib.hid (by omega)⟩
  case round =>
    obtain ⟨i, hi, rfl, HA⟩ := hrel
    by_cases hin : i < n
    · obtain ⟨b, o, rfl, hc⟩ := HH.out.at (by omega)
      have hc2 := (hc i hin).2
      have hz := HX.out _ (getD_memK ks i (by omega))
      have hmem := getD_memK ks i (by omega)
      have HE := Lib.hid (fun h => HG.out.2 (Or.inr ⟨_, hmem, h⟩))
      have HAn := Lib.hid (fun (h : (ks.getD i k0).2.size ≤ 100) j (hj : j < i + 1) => show (ks.getD j k0).2.size ≤ 100 from (by
          by_cases e : j = i
          · subst e; exact h
          · exact HA.out j (by omega)))
      obtain ⟨x, hx⟩ : ∃ x, ks.getD i k0 = x := ⟨_, rfl⟩
      rw [hx] at hc2 hz HE HAn
      clear hc hx hmem
      obtain ⟨x1, x2⟩ := x
      simp only at hc2 hz HE HAn
      by_cases hs : 100 < x2.size
      · have hgt : g = true := HE.out hs
        subst hgt
        go_wp2_with fail
        go_ret
        exact ⟨rfl, rfl⟩
      · have HA2 := Lib.hid (HAn.out (by omega))
        go_wp2_with fail
        go_round
        case rel => exact ⟨i + 1, by omega, by go_num, HA2⟩
        case measure => simp [intOf]; omega
    · have hgf : g = false := by
        cases hg : g with
        | false => rfl
        | true =>
          rcases HG.out.1 hg with x | ⟨k, hk, x⟩
          · omega
          · obtain ⟨j, hj, rfl⟩ := List.getElem_of_mem hk
            have := HA.out j (by omega)
            simp [List.getD_eq_getElem?_getD, hj] at this
            omega
      subst hgf
      go_wp2_with fail
      go_ret
      exact ⟨ret_bool (by simp <;> omega), rfl⟩
end Go.Proofs.Ythboiklcjpnhbaa
/- contract of the reference's code: a text laid behind bytes -/
namespace Go.Proofs.Ythboiklcjpnhbaa
open Go.RowKit
set_option linter.unusedVariables false
set_option maxRecDepth 20000
set_option maxHeartbeats 800000 in
theorem rputText_any (a : Option Addr) (n cap : Nat) (bs : List Nat) (s : ByteArray) (w : World) (h : HoldsB w a n bs) (hnil : a = none → n = 0 ∧ cap = 0) (hn : n ≤ 262144) (hs : s.size ≤ 1048576) :
    Calls Try.prog 89 #[.slice a n cap, .string s] w (RetB 5 w (putTextV bs s)) := by
  obtain ⟨i0, hi, hz0, hz1, hz2⟩ := info_parts u8_info
  have HN := Lib.hid hnil; have H := Lib.hid h; have HL := Lib.hid h.len
  clear h hnil
  have hcs := cutS_size s
  go_enter Try.func89, Try.ntmps89
  go_upto_region 1 with fail
  go_upto_if 7 with fail
  go_cut [1] (fun x wx => x = .string (cutS s) ∧ w = wx)
  case first =>
    by_cases h6 : s.size ≤ 65535
    · have e1 := cutS_small s h6
      have E1 := Lib.hid e1
      clear e1 hcs
      go_wp2_with fail
      all_goals go_meet
      all_goals exact ⟨by rw [E1.out], rfl⟩
    · have e1 := cutS_great s (by omega)
      have E1 := Lib.hid e1
      clear e1 hcs
      go_wp2_with fail
      all_goals go_meet
      all_goals exact ⟨by rw [E1.out], rfl⟩
  case rest =>
    obtain ⟨rfl, rfl⟩ := hcut
    have hc6 : (cutS s).size ≤ 65535 := by omega
    obtain ⟨c, hc⟩ : ∃ c, cutS s = c := ⟨_, rfl⟩
    rw [hc] at hc6 ⊢
    have HC := Lib.hid hc
    clear hc hcs
    go_wp2_with fail
    refine (rput_any a n cap bs (c.size : Int) 2 _ H.out HN.out (by omega)).mono ?_
    rintro e w2 ⟨a2, c2, rfl, hown2, hb2, hnil2⟩
    rw [bitsV_nat c.size (by omega)] at hown2 hnil2 ⊢
    have e2 : (bs ++ Cod.bytesOf c.size (sizeV 2) : List Nat) = bs ++ Cod.bytesOf c.size 2 := rfl
    have e3 : (bs ++ Cod.bytesOf c.size 2).length = n + 2 := by rw [List.length_append, HL.out, Cod.bytesOf_length]
    rw [e2, e3] at hown2 ⊢
    have K2 := Lib.hid hown2; have B2 := Lib.hid hb2; have E3 := Lib.hid e3
    clear hown2 hb2 hnil2 e2 e3
    have kc := fun (w : World) (s : ByteArray) => Lib.run_convert_string_bytes (P := Try.prog) w 9 39 5 s Try.underlying9 Try.underlying39 Try.underlying5
    have hbw := below_bytesWorld w2 5 c
    have hV := (holdsB_bytesWorld w2 5 c).values
    have BW := Lib.hid hbw; have HV := Lib.hid hV
    clear hbw hV
    go_wp2_with (at_builtin; refine wpList_append_any rfl (.tmp 13) (.tmp 15) 39 rfl w.heap.size 5 i0 (.int .u8 0) 1 1 Try.underlying39 hi hz0 hz1 hz2 rfl (by decide) _ (n + 2) _ rfl (owns_below K2.out BW.out) _ c.size _ (bytesV (strB c)) rfl (some_none _) (by rw [bytesV_length, strB_length, Nat.mul_one]) (HV.out.cells (World.grownBy.refl _ _)) (bytesV_one _) (by unfold maxLen; omega) (by omega) (B2.out.trans (BW.out.mono B2.out.size)).size ?_; intro a3 c3 w3 hown3 hb3 hnil3; rw [bytesV_append] at hown3)
    go_ret
    unfold putTextV
    rw [HC.out]
    have hL : (bs ++ Cod.bytesOf c.size 2 ++ strB c).length = n + 2 + c.size := by rw [List.length_append, List.length_append, HL.out, Cod.bytesOf_length, strB_length]
    refine ⟨a3, c3, by rw [hL]; rfl, by rw [hL]; exact hown3, (B2.out.trans (BW.out.mono B2.out.size)).trans hb3, by rw [hL]; exact (owns_none hown3).1⟩
end Go.Proofs.Ythboiklcjpnhbaa
/- two slices of one kind of numbers held against each other -/
namespace Go.Proofs.Ythboiklcjpnhbaa
open Go.RowKit
set_option linter.unusedVariables false
set_option maxRecDepth 20000

set_option maxHeartbeats 400000 in
theorem sameBytes_any (a1 a2 : Option Addr) (n1 c1 n2 c2 : Nat) (z1 z2 : List Int) (w : World) (h1 : HoldsI .u8 w a1 n1 z1) (h2 : HoldsI .u8 w a2 n2 z2) (hl1 : n1 ≤ 4611686018427387904) (hl2 : n2 ≤ 4611686018427387904) :
    Calls Try.prog 17 #[.slice a1 n1 c1, .slice a2 n2 c2] w fun e w' => e = .returned (.bool (decide (z1 = z2))) ∧ ∃ m, w' = w.drewN m := by
  obtain ⟨g1, g1'⟩ := h1
  obtain ⟨g2, g2'⟩ := h2
  by_cases hn : n1 = n2
  · subst hn
    rcases Nat.eq_zero_or_pos n1 with h0 | h0
    · subst h0
      clear g1' g2'
      obtain rfl := List.eq_nil_of_length_eq_zero g1
      obtain rfl := List.eq_nil_of_length_eq_zero g2
      go_enter Try.func17, Try.ntmps17
      go_wp2
      go_loop [5] (fun i => i = .int .i64 0) (fun _ => 0)
      case atStart => rfl
      case round =>
        obtain rfl := hrel
        go_wp2
        go_ret
        exact ⟨rfl, 0, rfl⟩
    · obtain ⟨b1, o1, rfl, k1⟩ := g1' h0
      obtain ⟨b2, o2, rfl, k2⟩ := g2' h0
      clear g1' g2'
      have G1 := Lib.hid g1; have G2 := Lib.hid g2; have K1 := Lib.hid k1; have K2 := Lib.hid k2
      clear g1 g2 k1 k2
      go_enter Try.func17, Try.ntmps17
      go_wp2
      go_loopw [5] (fun i wr => ∃ k m : Nat, k ≤ n1 ∧ i = .int .i64 k ∧ z1.take k = z2.take k ∧ wr = w.drewN m) (fun i _ => n1 - (intOf i).toNat)
      case atStart => exact ⟨0, 0, by omega, rfl, rfl, rfl⟩
      case round =>
        obtain ⟨k, m, hk, rfl, he, rfl⟩ := hrel
        have HE := Lib.hid he
        clear he
        by_cases hlt : k < n1
        · have e1 := K1.out k hlt
          have e2 := K2.out k hlt
          obtain ⟨x, hx⟩ : ∃ x, z1.getD k 0 = x := ⟨_, rfl⟩
          obtain ⟨y, hy⟩ : ∃ y, z2.getD k 0 = y := ⟨_, rfl⟩
          rw [hx] at e1; rw [hy] at e2
          have HX := Lib.hid hx; have HY := Lib.hid hy
          clear hx hy
          by_cases hxy : x = y
          · subst hxy
            go_wp2
            go_quiet (fail)
            go_wp2
            go_roundw
            case rel => exact ⟨k + 1, _, by omega, by go_num, by rw [take_succ_getD z1 0 k (by rw [G1.out]; exact hlt), take_succ_getD z2 0 k (by rw [G2.out]; exact hlt), HE.out, HX.out, HY.out], rfl⟩
            case measure => simp [intOf]; omega
          · have hb : (x != y) = true := by simpa using hxy
            go_wp2
            go_quiet (fail)
            go_wp2
            go_ret
            exact ⟨ret_bool (by symm; rw [decide_eq_false_iff_not]; exact take_ne_of_getD 0 k (by rw [HX.out, HY.out]; exact hxy)), _, World.drewN_drewN _ _ _⟩
        · have hkn : k = n1 := by omega
          have HK := Lib.hid hkn
          clear hkn
          go_wp2
          go_ret
          exact ⟨ret_bool (by symm; rw [decide_eq_true_iff]; exact take_eq_all (n := k) HE.out (by rw [G1.out, HK.out]) (by rw [G2.out, HK.out])), _, rfl⟩
  · have hb : ((n1 : Int) != (n2 : Int)) = true := by simp; omega
    clear g1' g2'
    have HN := Lib.hid hn; have G1 := Lib.hid g1; have G2 := Lib.hid g2
    clear hn g1 g2
    go_enter Try.func17, Try.ntmps17
    go_wp2
    go_ret
    exact ⟨ret_bool (by symm; rw [decide_eq_false_iff_not]; intro e; exact HN.out (by rw [← G1.out, ← G2.out, e])), 0, rfl⟩
end Go.Proofs.Ythboiklcjpnhbaa
/- what every program answers that is one: code -/
namespace Go.Proofs.Ythboiklcjpnhbaa
open Go.RowKit
set_option linter.unusedVariables false
set_option maxRecDepth 20000
theorem num_yesI (a : Option Addr) (n cap : Nat) (bs : List Nat) (k s : Nat) (kI sI : Int) (w : World) (h : HoldsB w a n bs) (hn : n ≤ 9223372036854775807) (h1 : 1 ≤ s) (h8 : s ≤ 8) (hk : k + s ≤ n) (ek : kI = k) (es : sI = s) :
    Calls Try.prog 45 #[.slice a n cap, .int .i64 kI, .int .i64 sI] w fun e w' => e = .returned (.tuple #[.int .i64 (wrap64 (numN bs k s : Nat)), .bool true]) ∧ w = w' := by
  subst ek es; exact num_yes a n cap bs k s w h hn h1 h8 hk
theorem cast_inj (xs ys : List Nat) : (xs.map (fun b : Nat => (b : Int)) = ys.map fun b : Nat => (b : Int)) ↔ xs = ys := by
  constructor
  · intro h
    have := congrArg (List.map Int.toNat) h
    simpa [List.map_map, Function.comp_def] using this
  · rintro rfl; rfl
theorem sameB_any (a1 a2 : Option Addr) (n1 c1 n2 c2 : Nat) (x1 x2 : List Nat) (w : World) (h1 : HoldsB w a1 n1 x1) (h2 : HoldsB w a2 n2 x2) (hl1 : n1 ≤ 4611686018427387904) (hl2 : n2 ≤ 4611686018427387904) :
    Calls Try.prog 17 #[.slice a1 n1 c1, .slice a2 n2 c2] w fun e w' => e = .returned (.bool (decide (x1 = x2))) ∧ ∃ m, w' = w.drewN m :=
  (sameBytes_any a1 a2 n1 c1 n2 c2 _ _ w h1.1 h2.1 hl1 hl2).mono fun e w' ⟨he, hw⟩ => ⟨by rw [he]; congr 2; exact decide_eq_decide.2 (cast_inj x1 x2), hw⟩
theorem HoldsB.drewN {w : World} {a : Option Addr} {n : Nat} {bs : List Nat} (h : HoldsB w a n bs) (m : Nat) : HoldsB (w.drewN m) a n bs := h.below (below_drewN w m)
theorem HoldsB.alloc {w : World} {a : Option Addr} {n : Nat} {bs : List Nat} (h : HoldsB w a n bs) (o : Obj) : HoldsB (w.alloc o) a n bs := h.below (below_one w o)
theorem own_holdsB {w : World} {base : Nat} {e : TypeId} {a : Option Addr} {n c : Nat} {bs : List Nat} (h : w.ownsRow base e 1 (.slice a n c) n (bytesV bs)) (hb : ∀ b ∈ bs, b < 256) : HoldsB w a n bs := holdsB_of_values (owns_holds h) hb
end Go.Proofs.Ythboiklcjpnhbaa
/- a number, from 0 to below n -/
namespace Go.Proofs.Ythboiklcjpnhbaa
open Go.RowKit
set_option linter.unusedVariables false
set_option maxRecDepth 20000
def lowV (x n : Int) : Int := IntKind.u64.wrap x % n
theorem low_bd (x n : Int) (h : 0 < n) : 0 ≤ lowV x n ∧ lowV x n < n := ⟨Int.emod_nonneg _ (by omega), Int.emod_lt_of_pos _ h⟩
theorem u64_in (n : Int) (h : 0 ≤ n) (h2 : n < 18446744073709551616) : IntKind.u64.wrap n = n := by
  simp only [IntKind.wrap, IntKind.signed, IntKind.bits]; simp; omega
theorem u64_bdL (d : Int) : 0 ≤ IntKind.u64.wrap d ∧ IntKind.u64.wrap d < 18446744073709551616 := by
  simp only [IntKind.wrap, IntKind.signed, IntKind.bits]; simp; omega
theorem low_any (x n : Int) (h : 1 ≤ n) (h2 : n < 4611686018427387904) (w : World) :
    Calls Try.prog 33 #[.int .i64 x, .int .i64 n] w fun e w' => e = .returned (.int .i64 (lowV x n)) ∧ w = w' := by
  have hb := low_bd x n (by omega)
  have hw := u64_in n (by omega) (by omega)
  have hx := u64_bdL x
  go_enter Try.func33, Try.ntmps33
  go_wp2
  go_ret
  exact ⟨ret_int (by unfold lowV at *; rw [IntWalk.wrap64_in _ ⟨by omega, by omega⟩]), rfl⟩
end Go.Proofs.Ythboiklcjpnhbaa
/- msg: what every program answers that is one; great; one of the five -/
namespace Go.Proofs.Ythboiklcjpnhbaa
open Go.RowKit
set_option linter.unusedVariables false
set_option maxRecDepth 20000
theorem take_own (a b : List Nat) (n : Nat) (h : a.length = n) : (a ++ b).take n = a := by subst h; simp
theorem hello_same {a b : Int} {M' : MsgV} (h : SameM (.hello a b) M') : M' = .hello a b := by
  cases M' <;> first | exact h.elim | skip
  obtain ⟨rfl, rfl⟩ := h; rfl
theorem awake15_any (w : World) : Calls Try.prog 11 #[] w fun e w' => e = .returned (.bool true) ∧ Below w.heap.size w w' := by
  obtain ⟨F, hF⟩ : ∃ F, frameM (.hello 2 1) = F := ⟨_, rfl⟩
  have FL : F.length = 15 := by rw [← hF, frameM_len]; rfl
  have F11 : F.take 11 = [0, 15, 1, 0, 0, 0, 2, 0, 0, 0, 1] := by
    rw [← hF]
    refine (take_own _ _ 11 rfl).trans ?_
    decide
  have CE := Lib.hid (show Calls Try.prog 14 #[.iface 23 (.agg #[.int .i64 2, .int .i64 1])] w (EncP w F 15) from
    (encode_all (.hello 2 1) w trivial trivial).mono (by
      rintro e w' (⟨-, h⟩ | ⟨h, -⟩)
      · rw [hF, FL] at h; exact h
      · exact absurd h (by decide)))
  have DI := Lib.hid (fun (w1 : World) a c (h : HoldsB w1 a 15 F) (hc : 15 ≤ c) => show Calls Try.prog 25 #[.slice a 15 c] w1 (fun e w' => e = .returned (.tuple #[.iface 23 (.agg #[.int .i64 2, .int .i64 1]), .int .i64 0]) ∧ Below w1.heap.size w1 w') from
    (decode_back (.hello 2 1) a 15 c w1 (by rw [hF]; exact h) hc (by decide) (by intro x h; cases h)).mono (by
      rintro e w' ⟨M', rfl, hs, -, -, hb⟩
      obtain rfl := hello_same hs
      exact ⟨rfl, hb⟩))
  have CK := Lib.hid (fun w1 => show Calls Try.prog 21 #[.iface 23 (.agg #[.int .i64 2, .int .i64 1])] w1 (fun e w' => e = .returned (.int .i64 1) ∧ w1 = w') from kind_all (.hello 2 1) w1)
  have CN := Lib.hid (fun w1 => show Calls Try.prog 21 #[.iface 3 (.int .i64 7)] w1 (fun e w' => e = .returned (.int .i64 0) ∧ w1 = w') from kind_all (.num 7) w1)
  have F1 := Lib.hid F11
  clear hF FL F11
  go_enter Try.func11, Try.ntmps11
  go_wp2_with fail
  with_reducible refine CE.out.mono ?_
  rintro e w1 ⟨a1, c1, rfl, o1, hh, hb, -⟩
  obtain ⟨q, cp, e1⟩ := Joins.ownsRow_form o1 (by omega)
  have hc := (owns_none o1).2
  simp only [Value.slice.injEq] at e1
  obtain ⟨e1, -, -⟩ := e1
  subst e1
  have HA := Lib.hid hh
  have HB := Lib.hid hb
  clear o1 hh hb CE
  go_wp2_with fail
  with_reducible refine (sameB_any _ _ 11 _ 11 _ _ [0, 15, 1, 0, 0, 0, 2, 0, 0, 0, 1] _ (F1.out ▸ (HA.out.front 11 (by omega)).alloc _) (holdsB_lit w1 [0, 15, 1, 0, 0, 0, 2, 0, 0, 0, 1] 5 (0, 0) (by decide)) (by decide) (by decide)).mono ?_
  rintro e w2 ⟨rfl, m, rfl⟩
  rw [decide_eq_true rfl]
  have B2 := Lib.hid (show Below w.heap.size w ((w1.alloc (.cells #[.int .u8 0, .int .u8 15, .int .u8 1, .int .u8 0, .int .u8 0, .int .u8 0, .int .u8 2, .int .u8 0, .int .u8 0, .int .u8 0, .int .u8 1] 5)).drewN m) from
    (HB.out.alloc (HB.out.size) _).trans ((below_drewN _ m).mono (by have := HB.out.size; simp; omega)))
  have H2 := Lib.hid (((HA.out.alloc (.cells #[.int .u8 0, .int .u8 15, .int .u8 1, .int .u8 0, .int .u8 0, .int .u8 0, .int .u8 2, .int .u8 0, .int .u8 0, .int .u8 0, .int .u8 1] 5)).drewN m))
  generalize ((w1.alloc (.cells #[.int .u8 0, .int .u8 15, .int .u8 1, .int .u8 0, .int .u8 0, .int .u8 0, .int .u8 2, .int .u8 0, .int .u8 0, .int .u8 0, .int .u8 1] 5)).drewN m) = w2 at B2 H2 ⊢
  clear HA HB F1
  go_wp2_with fail
  with_reducible refine (DI.out _ _ _ H2.out hc).mono ?_
  rintro e w3 ⟨rfl, hb3⟩
  have B3 := Lib.hid (B2.out.trans (hb3.mono B2.out.size))
  clear hb3 DI H2 B2
  go_wp2_with fail
  with_reducible refine (sameHelloM 2 1 _).mono ?_
  rintro e w4 ⟨rfl, hb4⟩
  have B4 := Lib.hid (B3.out.trans (hb4.mono B3.out.size))
  clear hb4 B3
  go_wp2_with fail
  with_reducible refine (CK.out _).mono ?_
  rintro e w5 ⟨rfl, rfl⟩
  go_wp2_with fail
  with_reducible refine (CN.out _).mono ?_
  rintro e w5 ⟨rfl, rfl⟩
  go_wp2_with fail
  go_ret
  exact ⟨rfl, B4.out⟩
end Go.Proofs.Ythboiklcjpnhbaa
/- msg: great; one of the five -/
namespace Go.Proofs.Ythboiklcjpnhbaa
open Go.RowKit
set_option linter.unusedVariables false
set_option maxRecDepth 20000
theorem long_iff (n : Nat) (h : n ≤ 9223372036854775807) : decide (100 < (n : Int)) = decide (100 < n) := by congr 1; exact propext (by omega)
def greatQ (x : AskP) (y : RepP) : Bool := decide (100 < x.text.size) || (decide (100 < x.aw.size) || greatKB y.items)
abbrev agAsk (x : AskP) : Value := .agg #[.int .i64 x.slot, .int .i64 x.query, .int .i64 x.shard, .int .i64 x.seq, .int .i64 x.epoch, .string x.text, .int .i64 x.k, .int .i64 x.batch, .bool x.first, .int .i64 x.ad, .string x.aw]
abbrev agReply (x : RepP) : Value := .agg #[.int .i64 x.slot, .int .i64 x.query, .int .i64 x.shard, .int .i64 x.seq, .int .i64 x.worker, .int .i64 x.epoch, .slice x.ia x.n x.ic, .bool x.fin]
theorem great15_any (x : AskP) (y : RepP) (w : World) (h1 : x.text.size ≤ 9223372036854775807) (h2 : x.aw.size ≤ 9223372036854775807) (hh : HoldsK w y.ia y.n y.items) (hn : y.n ≤ 9223372036854775807) (hx : ∀ k ∈ y.items, k.2.size ≤ 9223372036854775807) :
    Calls Try.prog 10 #[agAsk x, agReply y] w fun e w' => e = .returned (.bool (greatQ x y)) ∧ Below w.heap.size w w' := by
  obtain ⟨z0, z1, z2, z3, z4, zt, z6, z7, z8, z9, zw⟩ := x
  obtain ⟨y0, y1, y2, y3, y4, y5, ia, n, ic, ks, yf⟩ := y
  simp only at h1 h2 hh hn hx
  have hG : greatQ ⟨z0, z1, z2, z3, z4, zt, z6, z7, z8, z9, zw⟩ ⟨y0, y1, y2, y3, y4, y5, ia, n, ic, ks, yf⟩ = (decide (100 < zt.size) || (decide (100 < zw.size) || greatKB ks)) := rfl
  rw [hG]
  have GK := Lib.hid (greatK_any ia n ic ks ((w.alloc (.cells #[.int .i64 z0, .int .i64 z1, .int .i64 z2, .int .i64 z3, .int .i64 z4, .string zt, .int .i64 z6, .int .i64 z7, .bool z8, .int .i64 z9, .string zw] 29)).alloc (.cells #[.int .i64 y0, .int .i64 y1, .int .i64 y2, .int .i64 y3, .int .i64 y4, .int .i64 y5, .slice ia n ic, .bool yf] 32)) ((hh.below (below_one w _)).below (below_one _ _)) hn hx)
  have BX := Lib.hid (show Below w.heap.size w ((w.alloc (.cells #[.int .i64 z0, .int .i64 z1, .int .i64 z2, .int .i64 z3, .int .i64 z4, .string zt, .int .i64 z6, .int .i64 z7, .bool z8, .int .i64 z9, .string zw] 29)).alloc (.cells #[.int .i64 y0, .int .i64 y1, .int .i64 y2, .int .i64 y3, .int .i64 y4, .int .i64 y5, .slice ia n ic, .bool yf] 32)) from by
    repeat' (first | exact Below.refl _ _ | refine Below.alloc ?_ (by simp <;> omega) _))
  clear hh hx hG
  by_cases c1 : 100 < zt.size
  · rw [decide_eq_true c1, Bool.true_or]
    go_enter Try.func10, Try.ntmps10
    go_wp2_with fail
    go_ret
    exact ⟨rfl, BX.out⟩
  rw [decide_eq_false c1, Bool.false_or]
  by_cases c2 : 100 < zw.size
  · rw [decide_eq_true c2, Bool.true_or]
    go_enter Try.func10, Try.ntmps10
    go_wp2_with fail
    go_ret
    exact ⟨rfl, BX.out⟩
  rw [decide_eq_false c2, Bool.false_or]
  go_enter Try.func10, Try.ntmps10
  go_wp2_with fail
  with_reducible refine GK.out.mono ?_
  rintro e w1 ⟨rfl, rfl⟩
  cases hg : greatKB ks
  · go_wp2_with fail
    go_ret
    exact ⟨ret_bool (by rw [hg]; simp; omega), BX.out⟩
  · go_wp2_with fail
    go_ret
    exact ⟨by rw [hg]; rfl, BX.out⟩
/-- one of the five, or the number -/
def oneM (k : Int) (h1 h2 g1 g2 g3 : Int) (x : AskP) (y : RepP) (s1 s2 : Int) : MsgV :=
  if lowV k 6 = 0 then .hello h1 h2 else if lowV k 6 = 1 then .grant g1 g2 g3 else if lowV k 6 = 2 then .ask x else if lowV k 6 = 3 then .reply y else if lowV k 6 = 4 then .stop s1 s2 else .num k
theorem one15_any (k h1 h2 g1 g2 g3 : Int) (x : AskP) (y : RepP) (s1 s2 : Int) (w : World) :
    Calls Try.prog 13 #[.int .i64 k, .agg #[.int .i64 h1, .int .i64 h2], .agg #[.int .i64 g1, .int .i64 g2, .int .i64 g3], agAsk x, agReply y, .agg #[.int .i64 s1, .int .i64 s2]] w fun e w' => e = .returned (valM (oneM k h1 h2 g1 g2 g3 x y s1 s2)) ∧ Below w.heap.size w w' := by
  have hb := low_bd k 6 (by omega)
  have CL := Lib.hid (low_any k 6 (by omega) (by omega))
  obtain ⟨z, hz⟩ : ∃ z, oneM k h1 h2 g1 g2 g3 x y s1 s2 = z := ⟨_, rfl⟩
  have HZ := Lib.hid hz
  rw [hz]
  unfold oneM at hz
  obtain ⟨d, hd⟩ : ∃ d, lowV k 6 = d := ⟨_, rfl⟩
  rw [hd] at hz CL hb
  obtain ⟨z0, z1, z2, z3, z4, zt, z6, z7, z8, z9, zw⟩ := x
  obtain ⟨y0, y1, y2, y3, y4, y5, ia, n, ic, ks, yf⟩ := y
  have BX := Lib.hid (show Below w.heap.size w (((((w.alloc (.cells #[.int .i64 h1, .int .i64 h2] 23)).alloc (.cells #[.int .i64 g1, .int .i64 g2, .int .i64 g3] 25)).alloc (.cells #[.int .i64 z0, .int .i64 z1, .int .i64 z2, .int .i64 z3, .int .i64 z4, .string zt, .int .i64 z6, .int .i64 z7, .bool z8, .int .i64 z9, .string zw] 29)).alloc (.cells #[.int .i64 y0, .int .i64 y1, .int .i64 y2, .int .i64 y3, .int .i64 y4, .int .i64 y5, .slice ia n ic, .bool yf] 32)).alloc (.cells #[.int .i64 s1, .int .i64 s2] 34)) from by
    repeat' (first | exact Below.refl _ _ | refine Below.alloc ?_ (by simp <;> omega) _))
  clear hd HZ
  have hc : d = 0 ∨ d = 1 ∨ d = 2 ∨ d = 3 ∨ d = 4 ∨ d = 5 := by omega
  clear hb
  rcases hc with rfl | rfl | rfl | rfl | rfl | rfl
  all_goals
    simp only [reduceIte, Int.reduceEq] at hz
    subst hz
    go_enter Try.func13, Try.ntmps13
    go_wp2_with fail
    with_reducible refine (CL.out _).mono ?_
    rintro e w1 ⟨rfl, rfl⟩
    go_wp2_with fail
    go_ret
    exact ⟨rfl, BX.out⟩
end Go.Proofs.Ythboiklcjpnhbaa
/- messages as arguments, opened -/
namespace Go.Proofs.Ythboiklcjpnhbaa
open Go.ChangeShapes Go.WideShapes Go.ChangeAt Go.RowKit
set_option linter.unusedVariables false
set_option maxRecDepth 20000
theorem cellsN_int : Try.prog.cellsOf 3 = 1 := by kernel_rfl
theorem cellsN_bool : Try.prog.cellsOf 4 = 1 := by kernel_rfl
theorem cellsN_items : Try.prog.cellsOf 30 = 1 := by kernel_rfl
theorem hello_arg {H : Type} {enc : TypeId × Value → H} {w : World} {base : Nat} {spare : Nat → Bool} {held : Bool} {r : Reach} {b0 : Nat} {v : Value} {d : DataW H} {p : List MemPlace}
    (hv : Value.okWide Try.prog w r b0 23 v) (h : DataW.Trod enc Try.prog w base spare held 23 v d p) : ∃ a b : Int, v = .agg #[.int .i64 a, .int .i64 b] := by
  obtain ⟨cs, rfl, hsz⟩ := okWide_struct Try.underlying23 hv
  obtain ⟨fuel, hf⟩ := h
  obtain ⟨hl, n, hf2⟩ := struct_cells Try.underlying23 hf
  rw [show Try.prog.cellsOf 23 = 2 by kernel_rfl] at hl
  obtain ⟨c0, c1, hcs⟩ : ∃ c0 c1, (Value.agg cs).cells.toList = [c0, c1] := by
    match (Value.agg cs).cells.toList, hl with
    | [a, b], _ => exact ⟨a, b, rfl⟩
  rw [hcs] at hf2
  obtain ⟨y0, z0⟩ := hf2 0 _ rfl
  obtain ⟨y1, z1⟩ := hf2 1 _ rfl
  simp [cellsN_int] at z0 z1
  obtain ⟨k0, h0, _, _⟩ := DataW.trod_int Try.underlying3 z0
  obtain ⟨k1, h1, _, _⟩ := DataW.trod_int Try.underlying3 z1
  simp at h0 h1
  subst h0 h1
  exact ⟨k0, k1, agg_of hcs⟩
theorem stop_arg {H : Type} {enc : TypeId × Value → H} {w : World} {base : Nat} {spare : Nat → Bool} {held : Bool} {r : Reach} {b0 : Nat} {v : Value} {d : DataW H} {p : List MemPlace}
    (hv : Value.okWide Try.prog w r b0 34 v) (h : DataW.Trod enc Try.prog w base spare held 34 v d p) : ∃ a b : Int, v = .agg #[.int .i64 a, .int .i64 b] := by
  obtain ⟨cs, rfl, hsz⟩ := okWide_struct Try.underlying34 hv
  obtain ⟨fuel, hf⟩ := h
  obtain ⟨hl, n, hf2⟩ := struct_cells Try.underlying34 hf
  rw [show Try.prog.cellsOf 34 = 2 by kernel_rfl] at hl
  obtain ⟨c0, c1, hcs⟩ : ∃ c0 c1, (Value.agg cs).cells.toList = [c0, c1] := by
    match (Value.agg cs).cells.toList, hl with
    | [a, b], _ => exact ⟨a, b, rfl⟩
  rw [hcs] at hf2
  obtain ⟨y0, z0⟩ := hf2 0 _ rfl
  obtain ⟨y1, z1⟩ := hf2 1 _ rfl
  simp [cellsN_int] at z0 z1
  obtain ⟨k0, h0, _, _⟩ := DataW.trod_int Try.underlying3 z0
  obtain ⟨k1, h1, _, _⟩ := DataW.trod_int Try.underlying3 z1
  simp at h0 h1
  subst h0 h1
  exact ⟨k0, k1, agg_of hcs⟩
theorem grant_arg {H : Type} {enc : TypeId × Value → H} {w : World} {base : Nat} {spare : Nat → Bool} {held : Bool} {r : Reach} {b0 : Nat} {v : Value} {d : DataW H} {p : List MemPlace}
    (hv : Value.okWide Try.prog w r b0 25 v) (h : DataW.Trod enc Try.prog w base spare held 25 v d p) : ∃ a b c : Int, v = .agg #[.int .i64 a, .int .i64 b, .int .i64 c] := by
  obtain ⟨cs, rfl, hsz⟩ := okWide_struct Try.underlying25 hv
  obtain ⟨fuel, hf⟩ := h
  obtain ⟨hl, n, hf2⟩ := struct_cells Try.underlying25 hf
  rw [show Try.prog.cellsOf 25 = 3 by kernel_rfl] at hl
  obtain ⟨c0, c1, c2, hcs⟩ : ∃ c0 c1 c2, (Value.agg cs).cells.toList = [c0, c1, c2] := by
    match (Value.agg cs).cells.toList, hl with
    | [a, b, c], _ => exact ⟨a, b, c, rfl⟩
  rw [hcs] at hf2
  obtain ⟨y0, z0⟩ := hf2 0 _ rfl
  obtain ⟨y1, z1⟩ := hf2 1 _ rfl
  obtain ⟨y2, z2⟩ := hf2 2 _ rfl
  simp [cellsN_int] at z0 z1 z2
  obtain ⟨k0, h0, _, _⟩ := DataW.trod_int Try.underlying3 z0
  obtain ⟨k1, h1, _, _⟩ := DataW.trod_int Try.underlying3 z1
  obtain ⟨k2, h2, _, _⟩ := DataW.trod_int Try.underlying3 z2
  simp at h0 h1 h2
  subst h0 h1 h2
  exact ⟨k0, k1, k2, agg_of hcs⟩
def RepOk (W : World) (x : RepP) : Prop := HoldsK W x.ia x.n x.items ∧ (x.ia = none → x.n = 0 ∧ x.ic = 0) ∧ x.n ≤ x.ic ∧ x.n ≤ 9223372036854775807 ∧ (∀ k ∈ x.items, KeyOk k)
theorem reply_arg {H : Type} {enc : TypeId × Value → H} {W : World} {base : Nat} {v : Value} {d : DataW H} {p : List MemPlace}
    (hv : Value.okWide Try.prog W .any base 32 v) (h : DataW.Trod enc Try.prog W 0 (fun _ => true) true 32 v d p) : ∃ x : RepP, RepOk W x ∧ v = agReply x := by
  obtain ⟨cs, rfl, hsz⟩ := okWide_struct Try.underlying32 hv
  obtain ⟨fuel, hf⟩ := h
  obtain ⟨hl, n, hf2⟩ := struct_cells Try.underlying32 hf
  rw [show Try.prog.cellsOf 32 = 8 by kernel_rfl] at hl
  obtain ⟨c0, c1, c2, c3, c4, c5, c6, c7, hcs⟩ : ∃ c0 c1 c2 c3 c4 c5 c6 c7, (Value.agg cs).cells.toList = [c0, c1, c2, c3, c4, c5, c6, c7] := by
    match (Value.agg cs).cells.toList, hl with
    | [c0, c1, c2, c3, c4, c5, c6, c7], _ => exact ⟨c0, c1, c2, c3, c4, c5, c6, c7, rfl⟩
  rw [hcs] at hf2
  obtain ⟨y0, z0⟩ := hf2 0 _ rfl
  obtain ⟨y1, z1⟩ := hf2 1 _ rfl
  obtain ⟨y2, z2⟩ := hf2 2 _ rfl
  obtain ⟨y3, z3⟩ := hf2 3 _ rfl
  obtain ⟨y4, z4⟩ := hf2 4 _ rfl
  obtain ⟨y5, z5⟩ := hf2 5 _ rfl
  obtain ⟨y6, z6⟩ := hf2 6 _ rfl
  obtain ⟨y7, z7⟩ := hf2 7 _ rfl
  simp [cellsN_int, cellsN_items, cellsN_bool] at z0 z1 z2 z3 z4 z5 z6 z7
  obtain ⟨k0, h0, _, _⟩ := DataW.trod_int Try.underlying3 z0
  obtain ⟨k1, h1, _, _⟩ := DataW.trod_int Try.underlying3 z1
  obtain ⟨k2, h2, _, _⟩ := DataW.trod_int Try.underlying3 z2
  obtain ⟨k3, h3, _, _⟩ := DataW.trod_int Try.underlying3 z3
  obtain ⟨k4, h4, _, _⟩ := DataW.trod_int Try.underlying3 z4
  obtain ⟨k5, h5, _, _⟩ := DataW.trod_int Try.underlying3 z5
  obtain ⟨a, na, ca, xs, hx, g1, g2, g3, g4, g5⟩ := open_pairs_cell Try.underlying30 Try.underlying27 (by kernel_rfl) rfl rfl ⟨rfl, rfl⟩ ⟨rfl, rfl⟩ z6
  obtain ⟨k7, h7, _⟩ := DataW.trod_bool Try.underlying4 z7
  simp at h0 h1 h2 h3 h4 h5 h7
  subst h0 h1 h2 h3 h4 h5 h7 hx
  exact ⟨⟨k0, k1, k2, k3, k4, k5, a, na, ca, xs, k7⟩, ⟨g1, g2, g3, g4, g5⟩, agg_of hcs⟩
end Go.Proofs.Ythboiklcjpnhbaa
/- the messages of an argument, boxed (by gen/mc4.py) -/
namespace Go.Proofs.Ythboiklcjpnhbaa
open Go.RowKit
set_option linter.unusedVariables false
set_option maxRecDepth 20000
theorem great_no {x : AskP} {y : RepP} (h : greatQ x y = false) : x.text.size ≤ 100 ∧ x.aw.size ≤ 100 ∧ y.items.length ≤ 80 ∧ smallK y.items := by
  unfold greatQ at h
  simp only [Bool.or_eq_false_iff, decide_eq_false_iff_not] at h
  obtain ⟨a, b, c⟩ := h
  exact ⟨by omega, by omega, greatK_no_iff.1 c⟩
theorem one_held {W w : World} (k h1 h2 g1 g2 g3 : Int) (x : AskP) (y : RepP) (s1 s2 : Int) (hy : RepOk W y) (hb : Below W.heap.size W w) : heldM w (oneM k h1 h2 g1 g2 g3 x y s1 s2) := by
  unfold oneM
  repeat' split
  all_goals first | trivial | exact ⟨hy.1.below hb, hy.2.1, hy.2.2.1⟩
theorem one_small {W : World} (k h1 h2 g1 g2 g3 : Int) (x : AskP) (y : RepP) (s1 s2 : Int) (hy : RepOk W y) (hg : greatQ x y = false) : smallM (oneM k h1 h2 g1 g2 g3 x y s1 s2) := by
  obtain ⟨a, b, c, d⟩ := great_no hg
  have hl := hy.1.len
  unfold oneM
  repeat' split
  all_goals first | trivial | exact ⟨by omega, by omega⟩ | exact ⟨fun k hk => by have := d k hk; omega, by omega⟩
theorem sameB_yes (a1 a2 : Option Addr) (n1 c1 n2 c2 : Nat) (xs : List Nat) (w : World) (h1 : HoldsB w a1 n1 xs) (h2 : HoldsB w a2 n2 xs) (hl1 : n1 ≤ 4611686018427387904) (hl2 : n2 ≤ 4611686018427387904) :
    Calls Try.prog 17 #[.slice a1 n1 c1, .slice a2 n2 c2] w fun e w' => e = .returned (.bool true) ∧ Below w.heap.size w w' :=
  (sameB_any a1 a2 n1 c1 n2 c2 xs xs w h1 h2 hl1 hl2).mono fun e w' ⟨he, m, hw⟩ => ⟨by rw [he, decide_eq_true rfl], hw ▸ below_drewN w m⟩
def Box5 (w0 : World) (h1 h2 g1 g2 g3 : Int) (x : AskP) (y : RepP) (s1 s2 : Int) (w : World) : Prop := Below w0.heap.size w0 w ∧ HelloIn w (w0.heap.size) h1 h2 ∧ GrantIn w (w0.heap.size + 1) g1 g2 g3 ∧ MAskIn w (w0.heap.size + 2) x ∧ ReplyIn w (w0.heap.size + 3) y ∧ StopIn w (w0.heap.size + 4) s1 s2
theorem Box5.carry {w0 : World} {h1 h2 g1 g2 g3 : Int} {x : AskP} {y : RepP} {s1 s2 : Int} {w w' : World} (h : Box5 w0 h1 h2 g1 g2 g3 x y s1 s2 w) (hb : Below w.heap.size w w') : Box5 w0 h1 h2 g1 g2 g3 x y s1 s2 w' := by
  obtain ⟨h, c0, c1, c2, c3, c4⟩ := h
  exact ⟨h.trans (hb.mono h.size), c0.below hb, c1.below hb, c2.below hb, c3.below hb, c4.below hb⟩
theorem Box5.new (w0 : World) (h1 h2 g1 g2 g3 : Int) (x : AskP) (y : RepP) (s1 s2 : Int) : Box5 w0 h1 h2 g1 g2 g3 x y s1 s2 (((((w0.alloc (.cells #[.int .i64 h1, .int .i64 h2] 23)).alloc (.cells #[.int .i64 g1, .int .i64 g2, .int .i64 g3] 25)).alloc (.cells #[.int .i64 x.slot, .int .i64 x.query, .int .i64 x.shard, .int .i64 x.seq, .int .i64 x.epoch, .string x.text, .int .i64 x.k, .int .i64 x.batch, .bool x.first, .int .i64 x.ad, .string x.aw] 29)).alloc (.cells #[.int .i64 y.slot, .int .i64 y.query, .int .i64 y.shard, .int .i64 y.seq, .int .i64 y.worker, .int .i64 y.epoch, .slice y.ia y.n y.ic, .bool y.fin] 32)).alloc (.cells #[.int .i64 s1, .int .i64 s2] 34)) := by
  have z0 : w0.heap.size = w0.heap.size := by simp
  have f0 := HelloIn_new w0 h1 h2 (w0.heap.size) 23 (0, 0) z0.symm
  have b0 := below_one w0 (.cells #[.int .i64 h1, .int .i64 h2] 23)
  have B0 : Below w0.heap.size w0 (w0.alloc (.cells #[.int .i64 h1, .int .i64 h2] 23)) := b0
  have z1 : (w0.alloc (.cells #[.int .i64 h1, .int .i64 h2] 23)).heap.size = w0.heap.size + 1 := by simp
  have f1 := GrantIn_new (w0.alloc (.cells #[.int .i64 h1, .int .i64 h2] 23)) g1 g2 g3 (w0.heap.size + 1) 25 (0, 0) z1.symm
  have b1 := below_one (w0.alloc (.cells #[.int .i64 h1, .int .i64 h2] 23)) (.cells #[.int .i64 g1, .int .i64 g2, .int .i64 g3] 25)
  replace f0 := f0.below b1
  have B1 : Below w0.heap.size w0 ((w0.alloc (.cells #[.int .i64 h1, .int .i64 h2] 23)).alloc (.cells #[.int .i64 g1, .int .i64 g2, .int .i64 g3] 25)) := B0.trans (b1.mono B0.size)
  have z2 : ((w0.alloc (.cells #[.int .i64 h1, .int .i64 h2] 23)).alloc (.cells #[.int .i64 g1, .int .i64 g2, .int .i64 g3] 25)).heap.size = w0.heap.size + 2 := by simp
  have f2 := MAskIn_new ((w0.alloc (.cells #[.int .i64 h1, .int .i64 h2] 23)).alloc (.cells #[.int .i64 g1, .int .i64 g2, .int .i64 g3] 25)) x (w0.heap.size + 2) 29 (0, 0) z2.symm
  have b2 := below_one ((w0.alloc (.cells #[.int .i64 h1, .int .i64 h2] 23)).alloc (.cells #[.int .i64 g1, .int .i64 g2, .int .i64 g3] 25)) (.cells #[.int .i64 x.slot, .int .i64 x.query, .int .i64 x.shard, .int .i64 x.seq, .int .i64 x.epoch, .string x.text, .int .i64 x.k, .int .i64 x.batch, .bool x.first, .int .i64 x.ad, .string x.aw] 29)
  replace f0 := f0.below b2
  replace f1 := f1.below b2
  have B2 : Below w0.heap.size w0 (((w0.alloc (.cells #[.int .i64 h1, .int .i64 h2] 23)).alloc (.cells #[.int .i64 g1, .int .i64 g2, .int .i64 g3] 25)).alloc (.cells #[.int .i64 x.slot, .int .i64 x.query, .int .i64 x.shard, .int .i64 x.seq, .int .i64 x.epoch, .string x.text, .int .i64 x.k, .int .i64 x.batch, .bool x.first, .int .i64 x.ad, .string x.aw] 29)) := B1.trans (b2.mono B1.size)
  have z3 : (((w0.alloc (.cells #[.int .i64 h1, .int .i64 h2] 23)).alloc (.cells #[.int .i64 g1, .int .i64 g2, .int .i64 g3] 25)).alloc (.cells #[.int .i64 x.slot, .int .i64 x.query, .int .i64 x.shard, .int .i64 x.seq, .int .i64 x.epoch, .string x.text, .int .i64 x.k, .int .i64 x.batch, .bool x.first, .int .i64 x.ad, .string x.aw] 29)).heap.size = w0.heap.size + 3 := by simp
  have f3 := ReplyIn_new (((w0.alloc (.cells #[.int .i64 h1, .int .i64 h2] 23)).alloc (.cells #[.int .i64 g1, .int .i64 g2, .int .i64 g3] 25)).alloc (.cells #[.int .i64 x.slot, .int .i64 x.query, .int .i64 x.shard, .int .i64 x.seq, .int .i64 x.epoch, .string x.text, .int .i64 x.k, .int .i64 x.batch, .bool x.first, .int .i64 x.ad, .string x.aw] 29)) y (w0.heap.size + 3) 32 (0, 0) z3.symm
  have b3 := below_one (((w0.alloc (.cells #[.int .i64 h1, .int .i64 h2] 23)).alloc (.cells #[.int .i64 g1, .int .i64 g2, .int .i64 g3] 25)).alloc (.cells #[.int .i64 x.slot, .int .i64 x.query, .int .i64 x.shard, .int .i64 x.seq, .int .i64 x.epoch, .string x.text, .int .i64 x.k, .int .i64 x.batch, .bool x.first, .int .i64 x.ad, .string x.aw] 29)) (.cells #[.int .i64 y.slot, .int .i64 y.query, .int .i64 y.shard, .int .i64 y.seq, .int .i64 y.worker, .int .i64 y.epoch, .slice y.ia y.n y.ic, .bool y.fin] 32)
  replace f0 := f0.below b3
  replace f1 := f1.below b3
  replace f2 := f2.below b3
  have B3 : Below w0.heap.size w0 ((((w0.alloc (.cells #[.int .i64 h1, .int .i64 h2] 23)).alloc (.cells #[.int .i64 g1, .int .i64 g2, .int .i64 g3] 25)).alloc (.cells #[.int .i64 x.slot, .int .i64 x.query, .int .i64 x.shard, .int .i64 x.seq, .int .i64 x.epoch, .string x.text, .int .i64 x.k, .int .i64 x.batch, .bool x.first, .int .i64 x.ad, .string x.aw] 29)).alloc (.cells #[.int .i64 y.slot, .int .i64 y.query, .int .i64 y.shard, .int .i64 y.seq, .int .i64 y.worker, .int .i64 y.epoch, .slice y.ia y.n y.ic, .bool y.fin] 32)) := B2.trans (b3.mono B2.size)
  have z4 : ((((w0.alloc (.cells #[.int .i64 h1, .int .i64 h2] 23)).alloc (.cells #[.int .i64 g1, .int .i64 g2, .int .i64 g3] 25)).alloc (.cells #[.int .i64 x.slot, .int .i64 x.query, .int .i64 x.shard, .int .i64 x.seq, .int .i64 x.epoch, .string x.text, .int .i64 x.k, .int .i64 x.batch, .bool x.first, .int .i64 x.ad, .string x.aw] 29)).alloc (.cells #[.int .i64 y.slot, .int .i64 y.query, .int .i64 y.shard, .int .i64 y.seq, .int .i64 y.worker, .int .i64 y.epoch, .slice y.ia y.n y.ic, .bool y.fin] 32)).heap.size = w0.heap.size + 4 := by simp
  have f4 := StopIn_new ((((w0.alloc (.cells #[.int .i64 h1, .int .i64 h2] 23)).alloc (.cells #[.int .i64 g1, .int .i64 g2, .int .i64 g3] 25)).alloc (.cells #[.int .i64 x.slot, .int .i64 x.query, .int .i64 x.shard, .int .i64 x.seq, .int .i64 x.epoch, .string x.text, .int .i64 x.k, .int .i64 x.batch, .bool x.first, .int .i64 x.ad, .string x.aw] 29)).alloc (.cells #[.int .i64 y.slot, .int .i64 y.query, .int .i64 y.shard, .int .i64 y.seq, .int .i64 y.worker, .int .i64 y.epoch, .slice y.ia y.n y.ic, .bool y.fin] 32)) s1 s2 (w0.heap.size + 4) 34 (0, 0) z4.symm
  have b4 := below_one ((((w0.alloc (.cells #[.int .i64 h1, .int .i64 h2] 23)).alloc (.cells #[.int .i64 g1, .int .i64 g2, .int .i64 g3] 25)).alloc (.cells #[.int .i64 x.slot, .int .i64 x.query, .int .i64 x.shard, .int .i64 x.seq, .int .i64 x.epoch, .string x.text, .int .i64 x.k, .int .i64 x.batch, .bool x.first, .int .i64 x.ad, .string x.aw] 29)).alloc (.cells #[.int .i64 y.slot, .int .i64 y.query, .int .i64 y.shard, .int .i64 y.seq, .int .i64 y.worker, .int .i64 y.epoch, .slice y.ia y.n y.ic, .bool y.fin] 32)) (.cells #[.int .i64 s1, .int .i64 s2] 34)
  replace f0 := f0.below b4
  replace f1 := f1.below b4
  replace f2 := f2.below b4
  replace f3 := f3.below b4
  have B4 : Below w0.heap.size w0 (((((w0.alloc (.cells #[.int .i64 h1, .int .i64 h2] 23)).alloc (.cells #[.int .i64 g1, .int .i64 g2, .int .i64 g3] 25)).alloc (.cells #[.int .i64 x.slot, .int .i64 x.query, .int .i64 x.shard, .int .i64 x.seq, .int .i64 x.epoch, .string x.text, .int .i64 x.k, .int .i64 x.batch, .bool x.first, .int .i64 x.ad, .string x.aw] 29)).alloc (.cells #[.int .i64 y.slot, .int .i64 y.query, .int .i64 y.shard, .int .i64 y.seq, .int .i64 y.worker, .int .i64 y.epoch, .slice y.ia y.n y.ic, .bool y.fin] 32)).alloc (.cells #[.int .i64 s1, .int .i64 s2] 34)) := B3.trans (b4.mono B3.size)
  exact ⟨B4, f0, f1, f2, f3, f4⟩
def Box6 (w0 : World) (h1 h2 g1 g2 g3 : Int) (x : AskP) (y : RepP) (s1 s2 : Int) (z : AskP) (w : World) : Prop := Below w0.heap.size w0 w ∧ HelloIn w (w0.heap.size) h1 h2 ∧ GrantIn w (w0.heap.size + 1) g1 g2 g3 ∧ MAskIn w (w0.heap.size + 2) x ∧ ReplyIn w (w0.heap.size + 3) y ∧ StopIn w (w0.heap.size + 4) s1 s2 ∧ MAskIn w (w0.heap.size + 5) z
theorem Box6.carry {w0 : World} {h1 h2 g1 g2 g3 : Int} {x : AskP} {y : RepP} {s1 s2 : Int} {z : AskP} {w w' : World} (h : Box6 w0 h1 h2 g1 g2 g3 x y s1 s2 z w) (hb : Below w.heap.size w w') : Box6 w0 h1 h2 g1 g2 g3 x y s1 s2 z w' := by
  obtain ⟨h, c0, c1, c2, c3, c4, c5⟩ := h
  exact ⟨h.trans (hb.mono h.size), c0.below hb, c1.below hb, c2.below hb, c3.below hb, c4.below hb, c5.below hb⟩
theorem Box6.new (w0 : World) (h1 h2 g1 g2 g3 : Int) (x : AskP) (y : RepP) (s1 s2 : Int) (z : AskP) : Box6 w0 h1 h2 g1 g2 g3 x y s1 s2 z ((((((w0.alloc (.cells #[.int .i64 h1, .int .i64 h2] 23)).alloc (.cells #[.int .i64 g1, .int .i64 g2, .int .i64 g3] 25)).alloc (.cells #[.int .i64 x.slot, .int .i64 x.query, .int .i64 x.shard, .int .i64 x.seq, .int .i64 x.epoch, .string x.text, .int .i64 x.k, .int .i64 x.batch, .bool x.first, .int .i64 x.ad, .string x.aw] 29)).alloc (.cells #[.int .i64 y.slot, .int .i64 y.query, .int .i64 y.shard, .int .i64 y.seq, .int .i64 y.worker, .int .i64 y.epoch, .slice y.ia y.n y.ic, .bool y.fin] 32)).alloc (.cells #[.int .i64 s1, .int .i64 s2] 34)).alloc (.cells #[.int .i64 z.slot, .int .i64 z.query, .int .i64 z.shard, .int .i64 z.seq, .int .i64 z.epoch, .string z.text, .int .i64 z.k, .int .i64 z.batch, .bool z.first, .int .i64 z.ad, .string z.aw] 29)) := by
  have z0 : w0.heap.size = w0.heap.size := by simp
  have f0 := HelloIn_new w0 h1 h2 (w0.heap.size) 23 (0, 0) z0.symm
  have b0 := below_one w0 (.cells #[.int .i64 h1, .int .i64 h2] 23)
  have B0 : Below w0.heap.size w0 (w0.alloc (.cells #[.int .i64 h1, .int .i64 h2] 23)) := b0
  have z1 : (w0.alloc (.cells #[.int .i64 h1, .int .i64 h2] 23)).heap.size = w0.heap.size + 1 := by simp
  have f1 := GrantIn_new (w0.alloc (.cells #[.int .i64 h1, .int .i64 h2] 23)) g1 g2 g3 (w0.heap.size + 1) 25 (0, 0) z1.symm
  have b1 := below_one (w0.alloc (.cells #[.int .i64 h1, .int .i64 h2] 23)) (.cells #[.int .i64 g1, .int .i64 g2, .int .i64 g3] 25)
  replace f0 := f0.below b1
  have B1 : Below w0.heap.size w0 ((w0.alloc (.cells #[.int .i64 h1, .int .i64 h2] 23)).alloc (.cells #[.int .i64 g1, .int .i64 g2, .int .i64 g3] 25)) := B0.trans (b1.mono B0.size)
  have z2 : ((w0.alloc (.cells #[.int .i64 h1, .int .i64 h2] 23)).alloc (.cells #[.int .i64 g1, .int .i64 g2, .int .i64 g3] 25)).heap.size = w0.heap.size + 2 := by simp
  have f2 := MAskIn_new ((w0.alloc (.cells #[.int .i64 h1, .int .i64 h2] 23)).alloc (.cells #[.int .i64 g1, .int .i64 g2, .int .i64 g3] 25)) x (w0.heap.size + 2) 29 (0, 0) z2.symm
  have b2 := below_one ((w0.alloc (.cells #[.int .i64 h1, .int .i64 h2] 23)).alloc (.cells #[.int .i64 g1, .int .i64 g2, .int .i64 g3] 25)) (.cells #[.int .i64 x.slot, .int .i64 x.query, .int .i64 x.shard, .int .i64 x.seq, .int .i64 x.epoch, .string x.text, .int .i64 x.k, .int .i64 x.batch, .bool x.first, .int .i64 x.ad, .string x.aw] 29)
  replace f0 := f0.below b2
  replace f1 := f1.below b2
  have B2 : Below w0.heap.size w0 (((w0.alloc (.cells #[.int .i64 h1, .int .i64 h2] 23)).alloc (.cells #[.int .i64 g1, .int .i64 g2, .int .i64 g3] 25)).alloc (.cells #[.int .i64 x.slot, .int .i64 x.query, .int .i64 x.shard, .int .i64 x.seq, .int .i64 x.epoch, .string x.text, .int .i64 x.k, .int .i64 x.batch, .bool x.first, .int .i64 x.ad, .string x.aw] 29)) := B1.trans (b2.mono B1.size)
  have z3 : (((w0.alloc (.cells #[.int .i64 h1, .int .i64 h2] 23)).alloc (.cells #[.int .i64 g1, .int .i64 g2, .int .i64 g3] 25)).alloc (.cells #[.int .i64 x.slot, .int .i64 x.query, .int .i64 x.shard, .int .i64 x.seq, .int .i64 x.epoch, .string x.text, .int .i64 x.k, .int .i64 x.batch, .bool x.first, .int .i64 x.ad, .string x.aw] 29)).heap.size = w0.heap.size + 3 := by simp
  have f3 := ReplyIn_new (((w0.alloc (.cells #[.int .i64 h1, .int .i64 h2] 23)).alloc (.cells #[.int .i64 g1, .int .i64 g2, .int .i64 g3] 25)).alloc (.cells #[.int .i64 x.slot, .int .i64 x.query, .int .i64 x.shard, .int .i64 x.seq, .int .i64 x.epoch, .string x.text, .int .i64 x.k, .int .i64 x.batch, .bool x.first, .int .i64 x.ad, .string x.aw] 29)) y (w0.heap.size + 3) 32 (0, 0) z3.symm
  have b3 := below_one (((w0.alloc (.cells #[.int .i64 h1, .int .i64 h2] 23)).alloc (.cells #[.int .i64 g1, .int .i64 g2, .int .i64 g3] 25)).alloc (.cells #[.int .i64 x.slot, .int .i64 x.query, .int .i64 x.shard, .int .i64 x.seq, .int .i64 x.epoch, .string x.text, .int .i64 x.k, .int .i64 x.batch, .bool x.first, .int .i64 x.ad, .string x.aw] 29)) (.cells #[.int .i64 y.slot, .int .i64 y.query, .int .i64 y.shard, .int .i64 y.seq, .int .i64 y.worker, .int .i64 y.epoch, .slice y.ia y.n y.ic, .bool y.fin] 32)
  replace f0 := f0.below b3
  replace f1 := f1.below b3
  replace f2 := f2.below b3
  have B3 : Below w0.heap.size w0 ((((w0.alloc (.cells #[.int .i64 h1, .int .i64 h2] 23)).alloc (.cells #[.int .i64 g1, .int .i64 g2, .int .i64 g3] 25)).alloc (.cells #[.int .i64 x.slot, .int .i64 x.query, .int .i64 x.shard, .int .i64 x.seq, .int .i64 x.epoch, .string x.text, .int .i64 x.k, .int .i64 x.batch, .bool x.first, .int .i64 x.ad, .string x.aw] 29)).alloc (.cells #[.int .i64 y.slot, .int .i64 y.query, .int .i64 y.shard, .int .i64 y.seq, .int .i64 y.worker, .int .i64 y.epoch, .slice y.ia y.n y.ic, .bool y.fin] 32)) := B2.trans (b3.mono B2.size)
  have z4 : ((((w0.alloc (.cells #[.int .i64 h1, .int .i64 h2] 23)).alloc (.cells #[.int .i64 g1, .int .i64 g2, .int .i64 g3] 25)).alloc (.cells #[.int .i64 x.slot, .int .i64 x.query, .int .i64 x.shard, .int .i64 x.seq, .int .i64 x.epoch, .string x.text, .int .i64 x.k, .int .i64 x.batch, .bool x.first, .int .i64 x.ad, .string x.aw] 29)).alloc (.cells #[.int .i64 y.slot, .int .i64 y.query, .int .i64 y.shard, .int .i64 y.seq, .int .i64 y.worker, .int .i64 y.epoch, .slice y.ia y.n y.ic, .bool y.fin] 32)).heap.size = w0.heap.size + 4 := by simp
  have f4 := StopIn_new ((((w0.alloc (.cells #[.int .i64 h1, .int .i64 h2] 23)).alloc (.cells #[.int .i64 g1, .int .i64 g2, .int .i64 g3] 25)).alloc (.cells #[.int .i64 x.slot, .int .i64 x.query, .int .i64 x.shard, .int .i64 x.seq, .int .i64 x.epoch, .string x.text, .int .i64 x.k, .int .i64 x.batch, .bool x.first, .int .i64 x.ad, .string x.aw] 29)).alloc (.cells #[.int .i64 y.slot, .int .i64 y.query, .int .i64 y.shard, .int .i64 y.seq, .int .i64 y.worker, .int .i64 y.epoch, .slice y.ia y.n y.ic, .bool y.fin] 32)) s1 s2 (w0.heap.size + 4) 34 (0, 0) z4.symm
  have b4 := below_one ((((w0.alloc (.cells #[.int .i64 h1, .int .i64 h2] 23)).alloc (.cells #[.int .i64 g1, .int .i64 g2, .int .i64 g3] 25)).alloc (.cells #[.int .i64 x.slot, .int .i64 x.query, .int .i64 x.shard, .int .i64 x.seq, .int .i64 x.epoch, .string x.text, .int .i64 x.k, .int .i64 x.batch, .bool x.first, .int .i64 x.ad, .string x.aw] 29)).alloc (.cells #[.int .i64 y.slot, .int .i64 y.query, .int .i64 y.shard, .int .i64 y.seq, .int .i64 y.worker, .int .i64 y.epoch, .slice y.ia y.n y.ic, .bool y.fin] 32)) (.cells #[.int .i64 s1, .int .i64 s2] 34)
  replace f0 := f0.below b4
  replace f1 := f1.below b4
  replace f2 := f2.below b4
  replace f3 := f3.below b4
  have B4 : Below w0.heap.size w0 (((((w0.alloc (.cells #[.int .i64 h1, .int .i64 h2] 23)).alloc (.cells #[.int .i64 g1, .int .i64 g2, .int .i64 g3] 25)).alloc (.cells #[.int .i64 x.slot, .int .i64 x.query, .int .i64 x.shard, .int .i64 x.seq, .int .i64 x.epoch, .string x.text, .int .i64 x.k, .int .i64 x.batch, .bool x.first, .int .i64 x.ad, .string x.aw] 29)).alloc (.cells #[.int .i64 y.slot, .int .i64 y.query, .int .i64 y.shard, .int .i64 y.seq, .int .i64 y.worker, .int .i64 y.epoch, .slice y.ia y.n y.ic, .bool y.fin] 32)).alloc (.cells #[.int .i64 s1, .int .i64 s2] 34)) := B3.trans (b4.mono B3.size)
  have z5 : (((((w0.alloc (.cells #[.int .i64 h1, .int .i64 h2] 23)).alloc (.cells #[.int .i64 g1, .int .i64 g2, .int .i64 g3] 25)).alloc (.cells #[.int .i64 x.slot, .int .i64 x.query, .int .i64 x.shard, .int .i64 x.seq, .int .i64 x.epoch, .string x.text, .int .i64 x.k, .int .i64 x.batch, .bool x.first, .int .i64 x.ad, .string x.aw] 29)).alloc (.cells #[.int .i64 y.slot, .int .i64 y.query, .int .i64 y.shard, .int .i64 y.seq, .int .i64 y.worker, .int .i64 y.epoch, .slice y.ia y.n y.ic, .bool y.fin] 32)).alloc (.cells #[.int .i64 s1, .int .i64 s2] 34)).heap.size = w0.heap.size + 5 := by simp
  have f5 := MAskIn_new (((((w0.alloc (.cells #[.int .i64 h1, .int .i64 h2] 23)).alloc (.cells #[.int .i64 g1, .int .i64 g2, .int .i64 g3] 25)).alloc (.cells #[.int .i64 x.slot, .int .i64 x.query, .int .i64 x.shard, .int .i64 x.seq, .int .i64 x.epoch, .string x.text, .int .i64 x.k, .int .i64 x.batch, .bool x.first, .int .i64 x.ad, .string x.aw] 29)).alloc (.cells #[.int .i64 y.slot, .int .i64 y.query, .int .i64 y.shard, .int .i64 y.seq, .int .i64 y.worker, .int .i64 y.epoch, .slice y.ia y.n y.ic, .bool y.fin] 32)).alloc (.cells #[.int .i64 s1, .int .i64 s2] 34)) z (w0.heap.size + 5) 29 (0, 0) z5.symm
  have b5 := below_one (((((w0.alloc (.cells #[.int .i64 h1, .int .i64 h2] 23)).alloc (.cells #[.int .i64 g1, .int .i64 g2, .int .i64 g3] 25)).alloc (.cells #[.int .i64 x.slot, .int .i64 x.query, .int .i64 x.shard, .int .i64 x.seq, .int .i64 x.epoch, .string x.text, .int .i64 x.k, .int .i64 x.batch, .bool x.first, .int .i64 x.ad, .string x.aw] 29)).alloc (.cells #[.int .i64 y.slot, .int .i64 y.query, .int .i64 y.shard, .int .i64 y.seq, .int .i64 y.worker, .int .i64 y.epoch, .slice y.ia y.n y.ic, .bool y.fin] 32)).alloc (.cells #[.int .i64 s1, .int .i64 s2] 34)) (.cells #[.int .i64 z.slot, .int .i64 z.query, .int .i64 z.shard, .int .i64 z.seq, .int .i64 z.epoch, .string z.text, .int .i64 z.k, .int .i64 z.batch, .bool z.first, .int .i64 z.ad, .string z.aw] 29)
  replace f0 := f0.below b5
  replace f1 := f1.below b5
  replace f2 := f2.below b5
  replace f3 := f3.below b5
  replace f4 := f4.below b5
  have B5 : Below w0.heap.size w0 ((((((w0.alloc (.cells #[.int .i64 h1, .int .i64 h2] 23)).alloc (.cells #[.int .i64 g1, .int .i64 g2, .int .i64 g3] 25)).alloc (.cells #[.int .i64 x.slot, .int .i64 x.query, .int .i64 x.shard, .int .i64 x.seq, .int .i64 x.epoch, .string x.text, .int .i64 x.k, .int .i64 x.batch, .bool x.first, .int .i64 x.ad, .string x.aw] 29)).alloc (.cells #[.int .i64 y.slot, .int .i64 y.query, .int .i64 y.shard, .int .i64 y.seq, .int .i64 y.worker, .int .i64 y.epoch, .slice y.ia y.n y.ic, .bool y.fin] 32)).alloc (.cells #[.int .i64 s1, .int .i64 s2] 34)).alloc (.cells #[.int .i64 z.slot, .int .i64 z.query, .int .i64 z.shard, .int .i64 z.seq, .int .i64 z.epoch, .string z.text, .int .i64 z.k, .int .i64 z.batch, .bool z.first, .int .i64 z.ad, .string z.aw] 29)) := B4.trans (b5.mono B4.size)
  exact ⟨B5, f0, f1, f2, f3, f4, f5⟩
end Go.Proofs.Ythboiklcjpnhbaa
