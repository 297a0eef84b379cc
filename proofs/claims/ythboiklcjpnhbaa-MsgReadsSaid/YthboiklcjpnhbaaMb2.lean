/- msg: reading messages (by gen/mb2.py) -/
import Derived.Test.YthboiklcjpnhbaaMb1
namespace Go.Proofs.Ythboiklcjpnhbaa
open Go.RowKit
set_option linter.unusedVariables false
set_option maxRecDepth 20000
theorem holdsK_turn {w w' : World} {a : Option Addr} {n : Nat} {ks : List KV} {F : Nat → Prop} (h : HoldsK w a n ks) (t : Turn F w w') (hF : ∀ q o, 0 < n → a = some ⟨q, o, none⟩ → ¬ F q) : HoldsK w' a n ks := by
  refine ⟨h.1, fun h0 => ?_⟩
  obtain ⟨b, o, ha, hc⟩ := h.2 h0
  refine ⟨b, o, ha, fun i hi => ?_⟩
  have hl := lt_of_cell (hc i hi).1
  exact ⟨(t.cell hl (hF b o h0 ha)).trans (hc i hi).1, (t.cell hl (hF b o h0 ha)).trans (hc i hi).2⟩
theorem holdsK_lt {w : World} {a : Option Addr} {n : Nat} {ks : List KV} (h : HoldsK w a n ks) (h0 : 0 < n) : ∀ q o, a = some ⟨q, o, none⟩ → q < w.heap.size := fun q o e => by
  obtain ⟨b, o2, ha, hc⟩ := h.2 h0
  rw [e] at ha; injection ha with ha; injection ha with ha hb; subst ha
  exact lt_of_cell (hc 0 h0).1
def gAsk (bs : List Nat) (n : Nat) (s : RS) : AskP := ⟨gNum bs n 4 s, gNum bs n 4 (rNum n 4 s), gNum bs n 4 (rNum n 4 (rNum n 4 s)), gNum bs n 4 (rNum n 4 (rNum n 4 (rNum n 4 s))), gNum bs n 4 (rNum n 4 (rNum n 4 (rNum n 4 (rNum n 4 s)))), gText bs n (rNum n 4 (rNum n 4 (rNum n 4 (rNum n 4 (rNum n 4 s))))), gNum bs n 1 (rText bs n (rNum n 4 (rNum n 4 (rNum n 4 (rNum n 4 (rNum n 4 s)))))), gNum bs n 1 (rNum n 1 (rText bs n (rNum n 4 (rNum n 4 (rNum n 4 (rNum n 4 (rNum n 4 s))))))), gFlag bs n (rNum n 1 (rNum n 1 (rText bs n (rNum n 4 (rNum n 4 (rNum n 4 (rNum n 4 (rNum n 4 s)))))))), (gItem bs n (rNum n 1 (rNum n 1 (rNum n 1 (rText bs n (rNum n 4 (rNum n 4 (rNum n 4 (rNum n 4 (rNum n 4 s)))))))))).1, (gItem bs n (rNum n 1 (rNum n 1 (rNum n 1 (rText bs n (rNum n 4 (rNum n 4 (rNum n 4 (rNum n 4 (rNum n 4 s)))))))))).2⟩
def rAsk (bs : List Nat) (n : Nat) (s : RS) : RS := (rItem bs n (rNum n 1 (rNum n 1 (rNum n 1 (rText bs n (rNum n 4 (rNum n 4 (rNum n 4 (rNum n 4 (rNum n 4 s))))))))))
set_option maxHeartbeats 3200000 in
set_option maxRecDepth 100000 in
theorem rsAsk {r : Nat} {a : Option Addr} {n cap : Nat} {bs : List Nat} {s : RS} (w : World) (h : RdS r a n cap bs s w) :
    Calls Try.prog 76 #[.pointer (some ⟨r, 0, none⟩)] w (RdP r a n cap bs (rAsk bs n s) w (.agg #[.int .i64 (gAsk bs n s).slot, .int .i64 (gAsk bs n s).query, .int .i64 (gAsk bs n s).shard, .int .i64 (gAsk bs n s).seq, .int .i64 (gAsk bs n s).epoch, .string (gAsk bs n s).text, .int .i64 (gAsk bs n s).k, .int .i64 (gAsk bs n s).batch, .bool (gAsk bs n s).first, .int .i64 (gAsk bs n s).ad, .string (gAsk bs n s).aw])) := by
  have BX := Lib.hid (below_one w (.cells #[.int .i64 0, .int .i64 0, .int .i64 0, .int .i64 0, .int .i64 0, .string ⟨#[]⟩, .int .i64 0, .int .i64 0, .bool false, .int .i64 0, .string ⟨#[]⟩] 29))
  obtain ⟨p, hp⟩ : ∃ p, w.heap.size = p := ⟨_, rfl⟩
  have XB := Lib.hid (show (w.alloc (.cells #[.int .i64 0, .int .i64 0, .int .i64 0, .int .i64 0, .int .i64 0, .string ⟨#[]⟩, .int .i64 0, .int .i64 0, .bool false, .int .i64 0, .string ⟨#[]⟩] 29)).cell? ⟨w.heap.size, 0, none⟩ = some (.int .i64 0) ∧ (w.alloc (.cells #[.int .i64 0, .int .i64 0, .int .i64 0, .int .i64 0, .int .i64 0, .string ⟨#[]⟩, .int .i64 0, .int .i64 0, .bool false, .int .i64 0, .string ⟨#[]⟩] 29)).cell? ⟨w.heap.size, 1, none⟩ = some (.int .i64 0) ∧ (w.alloc (.cells #[.int .i64 0, .int .i64 0, .int .i64 0, .int .i64 0, .int .i64 0, .string ⟨#[]⟩, .int .i64 0, .int .i64 0, .bool false, .int .i64 0, .string ⟨#[]⟩] 29)).cell? ⟨w.heap.size, 2, none⟩ = some (.int .i64 0) ∧ (w.alloc (.cells #[.int .i64 0, .int .i64 0, .int .i64 0, .int .i64 0, .int .i64 0, .string ⟨#[]⟩, .int .i64 0, .int .i64 0, .bool false, .int .i64 0, .string ⟨#[]⟩] 29)).cell? ⟨w.heap.size, 3, none⟩ = some (.int .i64 0) ∧ (w.alloc (.cells #[.int .i64 0, .int .i64 0, .int .i64 0, .int .i64 0, .int .i64 0, .string ⟨#[]⟩, .int .i64 0, .int .i64 0, .bool false, .int .i64 0, .string ⟨#[]⟩] 29)).cell? ⟨w.heap.size, 4, none⟩ = some (.int .i64 0) ∧ (w.alloc (.cells #[.int .i64 0, .int .i64 0, .int .i64 0, .int .i64 0, .int .i64 0, .string ⟨#[]⟩, .int .i64 0, .int .i64 0, .bool false, .int .i64 0, .string ⟨#[]⟩] 29)).cell? ⟨w.heap.size, 5, none⟩ = some (.string ⟨#[]⟩) ∧ (w.alloc (.cells #[.int .i64 0, .int .i64 0, .int .i64 0, .int .i64 0, .int .i64 0, .string ⟨#[]⟩, .int .i64 0, .int .i64 0, .bool false, .int .i64 0, .string ⟨#[]⟩] 29)).cell? ⟨w.heap.size, 6, none⟩ = some (.int .i64 0) ∧ (w.alloc (.cells #[.int .i64 0, .int .i64 0, .int .i64 0, .int .i64 0, .int .i64 0, .string ⟨#[]⟩, .int .i64 0, .int .i64 0, .bool false, .int .i64 0, .string ⟨#[]⟩] 29)).cell? ⟨w.heap.size, 7, none⟩ = some (.int .i64 0) ∧ (w.alloc (.cells #[.int .i64 0, .int .i64 0, .int .i64 0, .int .i64 0, .int .i64 0, .string ⟨#[]⟩, .int .i64 0, .int .i64 0, .bool false, .int .i64 0, .string ⟨#[]⟩] 29)).cell? ⟨w.heap.size, 8, none⟩ = some (.bool false) ∧ (w.alloc (.cells #[.int .i64 0, .int .i64 0, .int .i64 0, .int .i64 0, .int .i64 0, .string ⟨#[]⟩, .int .i64 0, .int .i64 0, .bool false, .int .i64 0, .string ⟨#[]⟩] 29)).cell? ⟨w.heap.size, 9, none⟩ = some (.int .i64 0) ∧ (w.alloc (.cells #[.int .i64 0, .int .i64 0, .int .i64 0, .int .i64 0, .int .i64 0, .string ⟨#[]⟩, .int .i64 0, .int .i64 0, .bool false, .int .i64 0, .string ⟨#[]⟩] 29)).cell? ⟨w.heap.size, 10, none⟩ = some (.string ⟨#[]⟩) from ⟨by rw [World.cell?_alloc_mark]; rfl, by rw [World.cell?_alloc_mark]; rfl, by rw [World.cell?_alloc_mark]; rfl, by rw [World.cell?_alloc_mark]; rfl, by rw [World.cell?_alloc_mark]; rfl, by rw [World.cell?_alloc_mark]; rfl, by rw [World.cell?_alloc_mark]; rfl, by rw [World.cell?_alloc_mark]; rfl, by rw [World.cell?_alloc_mark]; rfl, by rw [World.cell?_alloc_mark]; rfl, by rw [World.cell?_alloc_mark]; rfl⟩)
  have XF := fun i => frozen_alloc (w := w) (cs := #[.int .i64 0, .int .i64 0, .int .i64 0, .int .i64 0, .int .i64 0, .string ⟨#[]⟩, .int .i64 0, .int .i64 0, .bool false, .int .i64 0, .string ⟨#[]⟩]) (T := 29) (o := i) rfl
  obtain ⟨w1, hw1⟩ : ∃ w1, w.alloc (.cells #[.int .i64 0, .int .i64 0, .int .i64 0, .int .i64 0, .int .i64 0, .string ⟨#[]⟩, .int .i64 0, .int .i64 0, .bool false, .int .i64 0, .string ⟨#[]⟩] 29) = w1 := ⟨_, rfl⟩
  have lr := Lib.hid (show r < p from by rw [← hp]; exact lt_of_cell h.m.c0)
  rw [hw1] at BX XB XF
  rw [hp] at XB XF
  have PL := Lib.hid (lt_of_cell XB.out.1)
  have XF0 := Lib.hid XF
  have TW := Lib.hid (show Turn (fun k => k = r) w w1 from Turn.of_below BX.out)
  have HP := Lib.hid hp
  have AL := Lib.hid (show 0 < n → ∀ q o, a = some ⟨q, o, none⟩ → q < p from hp ▸ fun h0 => h.lt h0)
  have M1 := Lib.hid (h.below BX.out)
  obtain ⟨v0, hv0⟩ : ∃ v, gNum bs n 4 s = v := ⟨_, rfl⟩
  obtain ⟨s1, hs1⟩ : ∃ s', rNum n 4 s = s' := ⟨_, rfl⟩
  have C0 := Lib.hid (fun w' (h' : RdS r a n cap bs s w') => rsNum 4 4 rfl (by omega) (by omega) w' h')
  rw [hv0, hs1] at C0
  obtain ⟨v1, hv1⟩ : ∃ v, gNum bs n 4 s1 = v := ⟨_, rfl⟩
  obtain ⟨s2, hs2⟩ : ∃ s', rNum n 4 s1 = s' := ⟨_, rfl⟩
  have C1 := Lib.hid (fun w' (h' : RdS r a n cap bs s1 w') => rsNum 4 4 rfl (by omega) (by omega) w' h')
  rw [hv1, hs2] at C1
  obtain ⟨v2, hv2⟩ : ∃ v, gNum bs n 4 s2 = v := ⟨_, rfl⟩
  obtain ⟨s3, hs3⟩ : ∃ s', rNum n 4 s2 = s' := ⟨_, rfl⟩
  have C2 := Lib.hid (fun w' (h' : RdS r a n cap bs s2 w') => rsNum 4 4 rfl (by omega) (by omega) w' h')
  rw [hv2, hs3] at C2
  obtain ⟨v3, hv3⟩ : ∃ v, gNum bs n 4 s3 = v := ⟨_, rfl⟩
  obtain ⟨s4, hs4⟩ : ∃ s', rNum n 4 s3 = s' := ⟨_, rfl⟩
  have C3 := Lib.hid (fun w' (h' : RdS r a n cap bs s3 w') => rsNum 4 4 rfl (by omega) (by omega) w' h')
  rw [hv3, hs4] at C3
  obtain ⟨v4, hv4⟩ : ∃ v, gNum bs n 4 s4 = v := ⟨_, rfl⟩
  obtain ⟨s5, hs5⟩ : ∃ s', rNum n 4 s4 = s' := ⟨_, rfl⟩
  have C4 := Lib.hid (fun w' (h' : RdS r a n cap bs s4 w') => rsNum 4 4 rfl (by omega) (by omega) w' h')
  rw [hv4, hs5] at C4
  obtain ⟨v5, hv5⟩ : ∃ v, gText bs n s5 = v := ⟨_, rfl⟩
  obtain ⟨s6, hs6⟩ : ∃ s', rText bs n s5 = s' := ⟨_, rfl⟩
  have C5 := Lib.hid (fun w' (h' : RdS r a n cap bs s5 w') => rsText w' h')
  rw [hv5, hs6] at C5
  obtain ⟨v6, hv6⟩ : ∃ v, gNum bs n 1 s6 = v := ⟨_, rfl⟩
  obtain ⟨s7, hs7⟩ : ∃ s', rNum n 1 s6 = s' := ⟨_, rfl⟩
  have C6 := Lib.hid (fun w' (h' : RdS r a n cap bs s6 w') => rsNum 1 1 rfl (by omega) (by omega) w' h')
  rw [hv6, hs7] at C6
  obtain ⟨v7, hv7⟩ : ∃ v, gNum bs n 1 s7 = v := ⟨_, rfl⟩
  obtain ⟨s8, hs8⟩ : ∃ s', rNum n 1 s7 = s' := ⟨_, rfl⟩
  have C7 := Lib.hid (fun w' (h' : RdS r a n cap bs s7 w') => rsNum 1 1 rfl (by omega) (by omega) w' h')
  rw [hv7, hs8] at C7
  obtain ⟨v8, hv8⟩ : ∃ v, gFlag bs n s8 = v := ⟨_, rfl⟩
  obtain ⟨s9, hs9⟩ : ∃ s', rNum n 1 s8 = s' := ⟨_, rfl⟩
  have C8 := Lib.hid (fun w' (h' : RdS r a n cap bs s8 w') => rsFlag w' h')
  rw [hv8, hs9] at C8
  obtain ⟨v9, hv9⟩ : ∃ v, (gItem bs n s9).1 = v := ⟨_, rfl⟩
  obtain ⟨v10, hv10⟩ : ∃ v, (gItem bs n s9).2 = v := ⟨_, rfl⟩
  obtain ⟨s10, hs10⟩ : ∃ s', rItem bs n s9 = s' := ⟨_, rfl⟩
  have C9 := Lib.hid (fun w' (h' : RdS r a n cap bs s9 w') => rsItem w' h')
  rw [hv9, hv10, hs10] at C9
  have HV := Lib.hid (show gAsk bs n s = ⟨v0, v1, v2, v3, v4, v5, v6, v7, v8, v9, v10⟩ from by
    unfold gAsk
    rw [hv0, hs1, hv1, hs2, hv2, hs3, hv3, hs4, hv4, hs5, hv5, hs6, hv6, hs7, hv7, hs8, hv8, hs9, hv9, hv10])
  have HS := Lib.hid (show rAsk bs n s = s10 from by
    unfold rAsk
    rw [hs1, hs2, hs3, hs4, hs5, hs6, hs7, hs8, hs9, hs10])
  rw [HV.out, HS.out]
  clear h XF hv0 hv1 hv2 hv3 hv4 hv5 hv6 hv7 hv8 hv9 hv10 hs1 hs2 hs3 hs4 hs5 hs6 hs7 hs8 hs9 hs10
  go_enter Try.func76, Try.ntmps76
  go_upto_region 1 with fail
  try rw [hw1]
  try simp only [hp]
  clear hw1 hp
  have T1 := Lib.hid TW.out
  have D0 := Lib.hid (C0.out w1 M1.out)
  clear C0
  go_wp2_with fail
  with_reducible refine D0.out.mono ?_
  rintro e w2 ⟨rfl, hm, ht⟩
  have M2 := Lib.hid hm
  have T2 := Lib.hid (T1.out.trans ht)
  have U2 := Lib.hid (show Turn (fun k => k = r) w1 w2 from ht)
  clear hm ht D0
  have D1 := Lib.hid (C1.out w2 M2.out)
  clear C1
  go_wp2_with fail
  with_reducible refine D1.out.mono ?_
  rintro e w3 ⟨rfl, hm, ht⟩
  have M3 := Lib.hid hm
  have T3 := Lib.hid (T2.out.trans ht)
  have U3 := Lib.hid (show Turn (fun k => k = r) w1 w3 from U2.out.trans ht)
  clear hm ht D1
  have D2 := Lib.hid (C2.out w3 M3.out)
  clear C2
  go_wp2_with fail
  with_reducible refine D2.out.mono ?_
  rintro e w4 ⟨rfl, hm, ht⟩
  have M4 := Lib.hid hm
  have T4 := Lib.hid (T3.out.trans ht)
  have U4 := Lib.hid (show Turn (fun k => k = r) w1 w4 from U3.out.trans ht)
  clear hm ht D2
  have D3 := Lib.hid (C3.out w4 M4.out)
  clear C3
  go_wp2_with fail
  with_reducible refine D3.out.mono ?_
  rintro e w5 ⟨rfl, hm, ht⟩
  have M5 := Lib.hid hm
  have T5 := Lib.hid (T4.out.trans ht)
  have U5 := Lib.hid (show Turn (fun k => k = r) w1 w5 from U4.out.trans ht)
  clear hm ht D3
  have D4 := Lib.hid (C4.out w5 M5.out)
  clear C4
  go_wp2_with fail
  with_reducible refine D4.out.mono ?_
  rintro e w6 ⟨rfl, hm, ht⟩
  have M6 := Lib.hid hm
  have T6 := Lib.hid (T5.out.trans ht)
  have U6 := Lib.hid (show Turn (fun k => k = r) w1 w6 from U5.out.trans ht)
  clear hm ht D4
  have D5 := Lib.hid (C5.out w6 M6.out)
  clear C5
  go_wp2_with fail
  with_reducible refine D5.out.mono ?_
  rintro e w7 ⟨rfl, hm, ht⟩
  have M7 := Lib.hid hm
  have T7 := Lib.hid (T6.out.trans ht)
  have U7 := Lib.hid (show Turn (fun k => k = r) w1 w7 from U6.out.trans ht)
  clear hm ht D5
  have D6 := Lib.hid (C6.out w7 M7.out)
  clear C6
  go_wp2_with fail
  with_reducible refine D6.out.mono ?_
  rintro e w8 ⟨rfl, hm, ht⟩
  have M8 := Lib.hid hm
  have T8 := Lib.hid (T7.out.trans ht)
  have U8 := Lib.hid (show Turn (fun k => k = r) w1 w8 from U7.out.trans ht)
  clear hm ht D6
  have D7 := Lib.hid (C7.out w8 M8.out)
  clear C7
  go_wp2_with fail
  with_reducible refine D7.out.mono ?_
  rintro e w9 ⟨rfl, hm, ht⟩
  have M9 := Lib.hid hm
  have T9 := Lib.hid (T8.out.trans ht)
  have U9 := Lib.hid (show Turn (fun k => k = r) w1 w9 from U8.out.trans ht)
  clear hm ht D7
  have D8 := Lib.hid (C8.out w9 M9.out)
  clear C8
  go_wp2_with fail
  with_reducible refine D8.out.mono ?_
  rintro e w10 ⟨rfl, hm, ht⟩
  have M10 := Lib.hid hm
  have T10 := Lib.hid (T9.out.trans ht)
  have U10 := Lib.hid (show Turn (fun k => k = r) w1 w10 from U9.out.trans ht)
  clear hm ht D8
  have D9 := Lib.hid (C9.out w10 M10.out)
  clear C9
  go_wp2_with fail
  with_reducible refine D9.out.mono ?_
  rintro e w11 ⟨rfl, hm, ht⟩
  have M11 := Lib.hid hm
  have T11 := Lib.hid (T10.out.trans ht)
  have U11 := Lib.hid (show Turn (fun k => k = r) w1 w11 from U10.out.trans ht)
  clear hm ht D9
  obtain ⟨q0, q1, q2, q3, q4, q5, q6, q7, q8, q9, q10⟩ := XB.out
  have y0 := (U11.out.cell PL.out (fun e => by have := lr.out; omega)).trans q0
  have f0 := (U11.out.frozen (o := 0) PL.out (fun e => by have := lr.out; omega)).trans (XF0.out 0)
  have y1 := (U11.out.cell PL.out (fun e => by have := lr.out; omega)).trans q1
  have f1 := (U11.out.frozen (o := 1) PL.out (fun e => by have := lr.out; omega)).trans (XF0.out 1)
  have y2 := (U11.out.cell PL.out (fun e => by have := lr.out; omega)).trans q2
  have f2 := (U11.out.frozen (o := 2) PL.out (fun e => by have := lr.out; omega)).trans (XF0.out 2)
  have y3 := (U11.out.cell PL.out (fun e => by have := lr.out; omega)).trans q3
  have f3 := (U11.out.frozen (o := 3) PL.out (fun e => by have := lr.out; omega)).trans (XF0.out 3)
  have y4 := (U11.out.cell PL.out (fun e => by have := lr.out; omega)).trans q4
  have f4 := (U11.out.frozen (o := 4) PL.out (fun e => by have := lr.out; omega)).trans (XF0.out 4)
  have y5 := (U11.out.cell PL.out (fun e => by have := lr.out; omega)).trans q5
  have f5 := (U11.out.frozen (o := 5) PL.out (fun e => by have := lr.out; omega)).trans (XF0.out 5)
  have y6 := (U11.out.cell PL.out (fun e => by have := lr.out; omega)).trans q6
  have f6 := (U11.out.frozen (o := 6) PL.out (fun e => by have := lr.out; omega)).trans (XF0.out 6)
  have y7 := (U11.out.cell PL.out (fun e => by have := lr.out; omega)).trans q7
  have f7 := (U11.out.frozen (o := 7) PL.out (fun e => by have := lr.out; omega)).trans (XF0.out 7)
  have y8 := (U11.out.cell PL.out (fun e => by have := lr.out; omega)).trans q8
  have f8 := (U11.out.frozen (o := 8) PL.out (fun e => by have := lr.out; omega)).trans (XF0.out 8)
  have y9 := (U11.out.cell PL.out (fun e => by have := lr.out; omega)).trans q9
  have f9 := (U11.out.frozen (o := 9) PL.out (fun e => by have := lr.out; omega)).trans (XF0.out 9)
  have y10 := (U11.out.cell PL.out (fun e => by have := lr.out; omega)).trans q10
  have f10 := (U11.out.frozen (o := 10) PL.out (fun e => by have := lr.out; omega)).trans (XF0.out 10)
  have g0 : (w11.setCell ⟨p, 0, none⟩ (.int .i64 v0)).cell? ⟨p, 0, none⟩ = some (.int .i64 v0) := cset_at (y0)
  have g1 : ((w11.setCell ⟨p, 0, none⟩ (.int .i64 v0)).setCell ⟨p, 1, none⟩ (.int .i64 v1)).cell? ⟨p, 1, none⟩ = some (.int .i64 v1) := cset_at ((cset_ne (by omega)).trans (y1))
  have g2 : (((w11.setCell ⟨p, 0, none⟩ (.int .i64 v0)).setCell ⟨p, 1, none⟩ (.int .i64 v1)).setCell ⟨p, 2, none⟩ (.int .i64 v2)).cell? ⟨p, 2, none⟩ = some (.int .i64 v2) := cset_at ((cset_ne (by omega)).trans ((cset_ne (by omega)).trans (y2)))
  have g3 : ((((w11.setCell ⟨p, 0, none⟩ (.int .i64 v0)).setCell ⟨p, 1, none⟩ (.int .i64 v1)).setCell ⟨p, 2, none⟩ (.int .i64 v2)).setCell ⟨p, 3, none⟩ (.int .i64 v3)).cell? ⟨p, 3, none⟩ = some (.int .i64 v3) := cset_at ((cset_ne (by omega)).trans ((cset_ne (by omega)).trans ((cset_ne (by omega)).trans (y3))))
  have g4 : (((((w11.setCell ⟨p, 0, none⟩ (.int .i64 v0)).setCell ⟨p, 1, none⟩ (.int .i64 v1)).setCell ⟨p, 2, none⟩ (.int .i64 v2)).setCell ⟨p, 3, none⟩ (.int .i64 v3)).setCell ⟨p, 4, none⟩ (.int .i64 v4)).cell? ⟨p, 4, none⟩ = some (.int .i64 v4) := cset_at ((cset_ne (by omega)).trans ((cset_ne (by omega)).trans ((cset_ne (by omega)).trans ((cset_ne (by omega)).trans (y4)))))
  have g5 : ((((((w11.setCell ⟨p, 0, none⟩ (.int .i64 v0)).setCell ⟨p, 1, none⟩ (.int .i64 v1)).setCell ⟨p, 2, none⟩ (.int .i64 v2)).setCell ⟨p, 3, none⟩ (.int .i64 v3)).setCell ⟨p, 4, none⟩ (.int .i64 v4)).setCell ⟨p, 5, none⟩ (.string v5)).cell? ⟨p, 5, none⟩ = some (.string v5) := cset_at ((cset_ne (by omega)).trans ((cset_ne (by omega)).trans ((cset_ne (by omega)).trans ((cset_ne (by omega)).trans ((cset_ne (by omega)).trans (y5))))))
  have g6 : (((((((w11.setCell ⟨p, 0, none⟩ (.int .i64 v0)).setCell ⟨p, 1, none⟩ (.int .i64 v1)).setCell ⟨p, 2, none⟩ (.int .i64 v2)).setCell ⟨p, 3, none⟩ (.int .i64 v3)).setCell ⟨p, 4, none⟩ (.int .i64 v4)).setCell ⟨p, 5, none⟩ (.string v5)).setCell ⟨p, 6, none⟩ (.int .i64 v6)).cell? ⟨p, 6, none⟩ = some (.int .i64 v6) := cset_at ((cset_ne (by omega)).trans ((cset_ne (by omega)).trans ((cset_ne (by omega)).trans ((cset_ne (by omega)).trans ((cset_ne (by omega)).trans ((cset_ne (by omega)).trans (y6)))))))
  have g7 : ((((((((w11.setCell ⟨p, 0, none⟩ (.int .i64 v0)).setCell ⟨p, 1, none⟩ (.int .i64 v1)).setCell ⟨p, 2, none⟩ (.int .i64 v2)).setCell ⟨p, 3, none⟩ (.int .i64 v3)).setCell ⟨p, 4, none⟩ (.int .i64 v4)).setCell ⟨p, 5, none⟩ (.string v5)).setCell ⟨p, 6, none⟩ (.int .i64 v6)).setCell ⟨p, 7, none⟩ (.int .i64 v7)).cell? ⟨p, 7, none⟩ = some (.int .i64 v7) := cset_at ((cset_ne (by omega)).trans ((cset_ne (by omega)).trans ((cset_ne (by omega)).trans ((cset_ne (by omega)).trans ((cset_ne (by omega)).trans ((cset_ne (by omega)).trans ((cset_ne (by omega)).trans (y7))))))))
  have g8 : (((((((((w11.setCell ⟨p, 0, none⟩ (.int .i64 v0)).setCell ⟨p, 1, none⟩ (.int .i64 v1)).setCell ⟨p, 2, none⟩ (.int .i64 v2)).setCell ⟨p, 3, none⟩ (.int .i64 v3)).setCell ⟨p, 4, none⟩ (.int .i64 v4)).setCell ⟨p, 5, none⟩ (.string v5)).setCell ⟨p, 6, none⟩ (.int .i64 v6)).setCell ⟨p, 7, none⟩ (.int .i64 v7)).setCell ⟨p, 8, none⟩ (.bool v8)).cell? ⟨p, 8, none⟩ = some (.bool v8) := cset_at ((cset_ne (by omega)).trans ((cset_ne (by omega)).trans ((cset_ne (by omega)).trans ((cset_ne (by omega)).trans ((cset_ne (by omega)).trans ((cset_ne (by omega)).trans ((cset_ne (by omega)).trans ((cset_ne (by omega)).trans (y8)))))))))
  have g9 : ((((((((((w11.setCell ⟨p, 0, none⟩ (.int .i64 v0)).setCell ⟨p, 1, none⟩ (.int .i64 v1)).setCell ⟨p, 2, none⟩ (.int .i64 v2)).setCell ⟨p, 3, none⟩ (.int .i64 v3)).setCell ⟨p, 4, none⟩ (.int .i64 v4)).setCell ⟨p, 5, none⟩ (.string v5)).setCell ⟨p, 6, none⟩ (.int .i64 v6)).setCell ⟨p, 7, none⟩ (.int .i64 v7)).setCell ⟨p, 8, none⟩ (.bool v8)).setCell ⟨p, 9, none⟩ (.int .i64 v9)).cell? ⟨p, 9, none⟩ = some (.int .i64 v9) := cset_at ((cset_ne (by omega)).trans ((cset_ne (by omega)).trans ((cset_ne (by omega)).trans ((cset_ne (by omega)).trans ((cset_ne (by omega)).trans ((cset_ne (by omega)).trans ((cset_ne (by omega)).trans ((cset_ne (by omega)).trans ((cset_ne (by omega)).trans (y9))))))))))
  have g10 : (((((((((((w11.setCell ⟨p, 0, none⟩ (.int .i64 v0)).setCell ⟨p, 1, none⟩ (.int .i64 v1)).setCell ⟨p, 2, none⟩ (.int .i64 v2)).setCell ⟨p, 3, none⟩ (.int .i64 v3)).setCell ⟨p, 4, none⟩ (.int .i64 v4)).setCell ⟨p, 5, none⟩ (.string v5)).setCell ⟨p, 6, none⟩ (.int .i64 v6)).setCell ⟨p, 7, none⟩ (.int .i64 v7)).setCell ⟨p, 8, none⟩ (.bool v8)).setCell ⟨p, 9, none⟩ (.int .i64 v9)).setCell ⟨p, 10, none⟩ (.string v10)).cell? ⟨p, 10, none⟩ = some (.string v10) := cset_at ((cset_ne (by omega)).trans ((cset_ne (by omega)).trans ((cset_ne (by omega)).trans ((cset_ne (by omega)).trans ((cset_ne (by omega)).trans ((cset_ne (by omega)).trans ((cset_ne (by omega)).trans ((cset_ne (by omega)).trans ((cset_ne (by omega)).trans ((cset_ne (by omega)).trans (y10)))))))))))
  have TS := Lib.hid (show Turn (fun k => k = p) w11 (((((((((((w11.setCell ⟨p, 0, none⟩ (.int .i64 v0)).setCell ⟨p, 1, none⟩ (.int .i64 v1)).setCell ⟨p, 2, none⟩ (.int .i64 v2)).setCell ⟨p, 3, none⟩ (.int .i64 v3)).setCell ⟨p, 4, none⟩ (.int .i64 v4)).setCell ⟨p, 5, none⟩ (.string v5)).setCell ⟨p, 6, none⟩ (.int .i64 v6)).setCell ⟨p, 7, none⟩ (.int .i64 v7)).setCell ⟨p, 8, none⟩ (.bool v8)).setCell ⟨p, 9, none⟩ (.int .i64 v9)).setCell ⟨p, 10, none⟩ (.string v10)) from (((((((((((Turn.setCell (F := fun k => k = p) rfl)).trans (Turn.setCell (F := fun k => k = p) rfl)).trans (Turn.setCell (F := fun k => k = p) rfl)).trans (Turn.setCell (F := fun k => k = p) rfl)).trans (Turn.setCell (F := fun k => k = p) rfl)).trans (Turn.setCell (F := fun k => k = p) rfl)).trans (Turn.setCell (F := fun k => k = p) rfl)).trans (Turn.setCell (F := fun k => k = p) rfl)).trans (Turn.setCell (F := fun k => k = p) rfl)).trans (Turn.setCell (F := fun k => k = p) rfl)).trans (Turn.setCell (F := fun k => k = p) rfl))
  have TT := Lib.hid (show Turn (fun k => k = r) w (((((((((((w11.setCell ⟨p, 0, none⟩ (.int .i64 v0)).setCell ⟨p, 1, none⟩ (.int .i64 v1)).setCell ⟨p, 2, none⟩ (.int .i64 v2)).setCell ⟨p, 3, none⟩ (.int .i64 v3)).setCell ⟨p, 4, none⟩ (.int .i64 v4)).setCell ⟨p, 5, none⟩ (.string v5)).setCell ⟨p, 6, none⟩ (.int .i64 v6)).setCell ⟨p, 7, none⟩ (.int .i64 v7)).setCell ⟨p, 8, none⟩ (.bool v8)).setCell ⟨p, 9, none⟩ (.int .i64 v9)).setCell ⟨p, 10, none⟩ (.string v10)) from by
    refine T11.out.trans' TS.out (fun i hi => Or.inr ?_)
    rw [HP.out, hi]; omega)
  have MM := Lib.hid (M11.out.fresh TS.out (fun e => by have := lr.out; omega) (fun h0 q o e => by have := AL.out h0 q o e; omega))
  clear q0 q1 q2 q3 q4 q5 q6 q7 q8 q9 q10 TS
  go_wp2_with fail
  exact bodyPost_ret (v := .agg #[.int .i64 v0, .int .i64 v1, .int .i64 v2, .int .i64 v3, .int .i64 v4, .string v5, .int .i64 v6, .int .i64 v7, .bool v8, .int .i64 v9, .string v10]) (by simp [results, go_sem, g0, g1, g2, g3, g4, g5, g6, g7, g8, g9, g10]) rfl ⟨rfl, MM.out, TT.out⟩
def gRep (bs : List Nat) (n : Nat) (s : RS) (ia : Option Addr) (m ic : Nat) : RepP := ⟨gNum bs n 4 s, gNum bs n 4 (rNum n 4 s), gNum bs n 4 (rNum n 4 (rNum n 4 s)), gNum bs n 4 (rNum n 4 (rNum n 4 (rNum n 4 s))), gNum bs n 4 (rNum n 4 (rNum n 4 (rNum n 4 (rNum n 4 s)))), gNum bs n 4 (rNum n 4 (rNum n 4 (rNum n 4 (rNum n 4 (rNum n 4 s))))), ia, m, ic, gItems bs n m (rNum n 1 (rNum n 4 (rNum n 4 (rNum n 4 (rNum n 4 (rNum n 4 (rNum n 4 s))))))), gFlag bs n (rItems bs n m (rNum n 1 (rNum n 4 (rNum n 4 (rNum n 4 (rNum n 4 (rNum n 4 (rNum n 4 s))))))))⟩
def mRep (bs : List Nat) (n : Nat) (s : RS) : Int := gNum bs n 1 (rNum n 4 (rNum n 4 (rNum n 4 (rNum n 4 (rNum n 4 (rNum n 4 s))))))
def rRep (bs : List Nat) (n : Nat) (s : RS) (m : Nat) : RS := rNum n 1 (rItems bs n m (rNum n 1 (rNum n 4 (rNum n 4 (rNum n 4 (rNum n 4 (rNum n 4 (rNum n 4 s))))))))
def RepR (r : Nat) (a : Option Addr) (n cap : Nat) (bs : List Nat) (s : RS) (w : World) (m : Nat) (e : Ending) (w' : World) : Prop :=
  ∃ (ia : Option Addr) (ic : Nat) (x : RepP), x = gRep bs n s ia m ic ∧ e = .returned (.agg #[.int .i64 x.slot, .int .i64 x.query, .int .i64 x.shard, .int .i64 x.seq, .int .i64 x.worker, .int .i64 x.epoch, .slice x.ia x.n x.ic, .bool x.fin]) ∧ HoldsK w' x.ia x.n x.items ∧ (x.ia = none → x.n = 0 ∧ x.ic = 0) ∧ x.n ≤ x.ic ∧ RdS r a n cap bs (rRep bs n s m) w' ∧ Turn (fun k => k = r) w w'
set_option maxHeartbeats 3200000 in
set_option maxRecDepth 100000 in
theorem rsReply (m : Nat) {r : Nat} {a : Option Addr} {n cap : Nat} {bs : List Nat} {s : RS} (w : World) (h : RdS r a n cap bs s w) (hm : mRep bs n s = (m : Int)) :
    Calls Try.prog 77 #[.pointer (some ⟨r, 0, none⟩)] w (RepR r a n cap bs s w m) := by
  have BX := Lib.hid (below_one w (.cells #[.int .i64 0, .int .i64 0, .int .i64 0, .int .i64 0, .int .i64 0, .int .i64 0, .slice none 0 0, .bool false] 32))
  obtain ⟨p, hp⟩ : ∃ p, w.heap.size = p := ⟨_, rfl⟩
  have XB := Lib.hid (show (w.alloc (.cells #[.int .i64 0, .int .i64 0, .int .i64 0, .int .i64 0, .int .i64 0, .int .i64 0, .slice none 0 0, .bool false] 32)).cell? ⟨w.heap.size, 0, none⟩ = some (.int .i64 0) ∧ (w.alloc (.cells #[.int .i64 0, .int .i64 0, .int .i64 0, .int .i64 0, .int .i64 0, .int .i64 0, .slice none 0 0, .bool false] 32)).cell? ⟨w.heap.size, 1, none⟩ = some (.int .i64 0) ∧ (w.alloc (.cells #[.int .i64 0, .int .i64 0, .int .i64 0, .int .i64 0, .int .i64 0, .int .i64 0, .slice none 0 0, .bool false] 32)).cell? ⟨w.heap.size, 2, none⟩ = some (.int .i64 0) ∧ (w.alloc (.cells #[.int .i64 0, .int .i64 0, .int .i64 0, .int .i64 0, .int .i64 0, .int .i64 0, .slice none 0 0, .bool false] 32)).cell? ⟨w.heap.size, 3, none⟩ = some (.int .i64 0) ∧ (w.alloc (.cells #[.int .i64 0, .int .i64 0, .int .i64 0, .int .i64 0, .int .i64 0, .int .i64 0, .slice none 0 0, .bool false] 32)).cell? ⟨w.heap.size, 4, none⟩ = some (.int .i64 0) ∧ (w.alloc (.cells #[.int .i64 0, .int .i64 0, .int .i64 0, .int .i64 0, .int .i64 0, .int .i64 0, .slice none 0 0, .bool false] 32)).cell? ⟨w.heap.size, 5, none⟩ = some (.int .i64 0) ∧ (w.alloc (.cells #[.int .i64 0, .int .i64 0, .int .i64 0, .int .i64 0, .int .i64 0, .int .i64 0, .slice none 0 0, .bool false] 32)).cell? ⟨w.heap.size, 6, none⟩ = some (.slice none 0 0) ∧ (w.alloc (.cells #[.int .i64 0, .int .i64 0, .int .i64 0, .int .i64 0, .int .i64 0, .int .i64 0, .slice none 0 0, .bool false] 32)).cell? ⟨w.heap.size, 7, none⟩ = some (.bool false) from ⟨by rw [World.cell?_alloc_mark]; rfl, by rw [World.cell?_alloc_mark]; rfl, by rw [World.cell?_alloc_mark]; rfl, by rw [World.cell?_alloc_mark]; rfl, by rw [World.cell?_alloc_mark]; rfl, by rw [World.cell?_alloc_mark]; rfl, by rw [World.cell?_alloc_mark]; rfl, by rw [World.cell?_alloc_mark]; rfl⟩)
  have XF := fun i => frozen_alloc (w := w) (cs := #[.int .i64 0, .int .i64 0, .int .i64 0, .int .i64 0, .int .i64 0, .int .i64 0, .slice none 0 0, .bool false]) (T := 32) (o := i) rfl
  obtain ⟨w1, hw1⟩ : ∃ w1, w.alloc (.cells #[.int .i64 0, .int .i64 0, .int .i64 0, .int .i64 0, .int .i64 0, .int .i64 0, .slice none 0 0, .bool false] 32) = w1 := ⟨_, rfl⟩
  have lr := Lib.hid (show r < p from by rw [← hp]; exact lt_of_cell h.m.c0)
  rw [hw1] at BX XB XF
  rw [hp] at XB XF
  have PL := Lib.hid (lt_of_cell XB.out.1)
  have XF0 := Lib.hid XF
  have TW := Lib.hid (show Turn (fun k => k = r) w w1 from Turn.of_below BX.out)
  have HP := Lib.hid hp
  have AL := Lib.hid (show 0 < n → ∀ q o, a = some ⟨q, o, none⟩ → q < p from hp ▸ fun h0 => h.lt h0)
  have M1 := Lib.hid (h.below BX.out)
  obtain ⟨v0, hv0⟩ : ∃ v, gNum bs n 4 s = v := ⟨_, rfl⟩
  obtain ⟨s1, hs1⟩ : ∃ s', rNum n 4 s = s' := ⟨_, rfl⟩
  have C0 := Lib.hid (fun w' (h' : RdS r a n cap bs s w') => rsNum 4 4 rfl (by omega) (by omega) w' h')
  rw [hv0, hs1] at C0
  obtain ⟨v1, hv1⟩ : ∃ v, gNum bs n 4 s1 = v := ⟨_, rfl⟩
  obtain ⟨s2, hs2⟩ : ∃ s', rNum n 4 s1 = s' := ⟨_, rfl⟩
  have C1 := Lib.hid (fun w' (h' : RdS r a n cap bs s1 w') => rsNum 4 4 rfl (by omega) (by omega) w' h')
  rw [hv1, hs2] at C1
  obtain ⟨v2, hv2⟩ : ∃ v, gNum bs n 4 s2 = v := ⟨_, rfl⟩
  obtain ⟨s3, hs3⟩ : ∃ s', rNum n 4 s2 = s' := ⟨_, rfl⟩
  have C2 := Lib.hid (fun w' (h' : RdS r a n cap bs s2 w') => rsNum 4 4 rfl (by omega) (by omega) w' h')
  rw [hv2, hs3] at C2
  obtain ⟨v3, hv3⟩ : ∃ v, gNum bs n 4 s3 = v := ⟨_, rfl⟩
  obtain ⟨s4, hs4⟩ : ∃ s', rNum n 4 s3 = s' := ⟨_, rfl⟩
  have C3 := Lib.hid (fun w' (h' : RdS r a n cap bs s3 w') => rsNum 4 4 rfl (by omega) (by omega) w' h')
  rw [hv3, hs4] at C3
  obtain ⟨v4, hv4⟩ : ∃ v, gNum bs n 4 s4 = v := ⟨_, rfl⟩
  obtain ⟨s5, hs5⟩ : ∃ s', rNum n 4 s4 = s' := ⟨_, rfl⟩
  have C4 := Lib.hid (fun w' (h' : RdS r a n cap bs s4 w') => rsNum 4 4 rfl (by omega) (by omega) w' h')
  rw [hv4, hs5] at C4
  obtain ⟨v5, hv5⟩ : ∃ v, gNum bs n 4 s5 = v := ⟨_, rfl⟩
  obtain ⟨s6, hs6⟩ : ∃ s', rNum n 4 s5 = s' := ⟨_, rfl⟩
  have C5 := Lib.hid (fun w' (h' : RdS r a n cap bs s5 w') => rsNum 4 4 rfl (by omega) (by omega) w' h')
  rw [hv5, hs6] at C5
  have HMM : gNum bs n 1 s6 = (m : Int) := by
    rw [← hm]; unfold mRep
    rw [hs1, hs2, hs3, hs4, hs5, hs6]
  have C6 := Lib.hid (fun w' (h' : RdS r a n cap bs s6 w') => rsItems m w' h' HMM)
  obtain ⟨ks, hks⟩ : ∃ ks, gItems bs n m (rNum n 1 s6) = ks := ⟨_, rfl⟩
  obtain ⟨s7, hs7⟩ : ∃ s', rItems bs n m (rNum n 1 s6) = s' := ⟨_, rfl⟩
  obtain ⟨vf, hvf⟩ : ∃ v, gFlag bs n s7 = v := ⟨_, rfl⟩
  obtain ⟨s8, hs8⟩ : ∃ s', rNum n 1 s7 = s' := ⟨_, rfl⟩
  have C7 := Lib.hid (fun w' (h' : RdS r a n cap bs s7 w') => rsFlag w' h')
  rw [hks, hs7] at C6
  rw [hvf, hs8] at C7
  have HV := Lib.hid (show ∀ ia ic, gRep bs n s ia m ic = ⟨v0, v1, v2, v3, v4, v5, ia, m, ic, ks, vf⟩ from fun ia ic => by
    unfold gRep
    rw [hv0, hs1, hv1, hs2, hv2, hs3, hv3, hs4, hv4, hs5, hv5, hs6, hks, hs7, hvf])
  have HS := Lib.hid (show rRep bs n s m = s8 from by
    unfold rRep
    rw [hs1, hs2, hs3, hs4, hs5, hs6, hs7, hs8])
  clear h XF HMM hm hks hs7 hvf hs8 hv0 hv1 hv2 hv3 hv4 hv5 hs1 hs2 hs3 hs4 hs5 hs6
  go_enter Try.func77, Try.ntmps77
  go_upto_region 1 with fail
  try rw [hw1]
  try simp only [hp]
  clear hw1 hp
  have T1 := Lib.hid TW.out
  have D0 := Lib.hid (C0.out w1 M1.out)
  clear C0
  go_wp2_with fail
  with_reducible refine D0.out.mono ?_
  rintro e w2 ⟨rfl, hm, ht⟩
  have M2 := Lib.hid hm
  have T2 := Lib.hid (T1.out.trans ht)
  have U2 := Lib.hid (show Turn (fun k => k = r) w1 w2 from ht)
  clear hm ht D0
  have D1 := Lib.hid (C1.out w2 M2.out)
  clear C1
  go_wp2_with fail
  with_reducible refine D1.out.mono ?_
  rintro e w3 ⟨rfl, hm, ht⟩
  have M3 := Lib.hid hm
  have T3 := Lib.hid (T2.out.trans ht)
  have U3 := Lib.hid (show Turn (fun k => k = r) w1 w3 from U2.out.trans ht)
  clear hm ht D1
  have D2 := Lib.hid (C2.out w3 M3.out)
  clear C2
  go_wp2_with fail
  with_reducible refine D2.out.mono ?_
  rintro e w4 ⟨rfl, hm, ht⟩
  have M4 := Lib.hid hm
  have T4 := Lib.hid (T3.out.trans ht)
  have U4 := Lib.hid (show Turn (fun k => k = r) w1 w4 from U3.out.trans ht)
  clear hm ht D2
  have D3 := Lib.hid (C3.out w4 M4.out)
  clear C3
  go_wp2_with fail
  with_reducible refine D3.out.mono ?_
  rintro e w5 ⟨rfl, hm, ht⟩
  have M5 := Lib.hid hm
  have T5 := Lib.hid (T4.out.trans ht)
  have U5 := Lib.hid (show Turn (fun k => k = r) w1 w5 from U4.out.trans ht)
  clear hm ht D3
  have D4 := Lib.hid (C4.out w5 M5.out)
  clear C4
  go_wp2_with fail
  with_reducible refine D4.out.mono ?_
  rintro e w6 ⟨rfl, hm, ht⟩
  have M6 := Lib.hid hm
  have T6 := Lib.hid (T5.out.trans ht)
  have U6 := Lib.hid (show Turn (fun k => k = r) w1 w6 from U5.out.trans ht)
  clear hm ht D4
  have D5 := Lib.hid (C5.out w6 M6.out)
  clear C5
  go_wp2_with fail
  with_reducible refine D5.out.mono ?_
  rintro e w7 ⟨rfl, hm, ht⟩
  have M7 := Lib.hid hm
  have T7 := Lib.hid (T6.out.trans ht)
  have U7 := Lib.hid (show Turn (fun k => k = r) w1 w7 from U6.out.trans ht)
  clear hm ht D5
  have D6 := Lib.hid (C6.out w7 M7.out)
  clear C6
  go_wp2_with fail
  with_reducible refine D6.out.mono ?_
  rintro e w8 ⟨ia, ic, rfl, hk, hn, hc, ho, hm, ht⟩
  have M8 := Lib.hid hm
  have T8 := Lib.hid (T7.out.trans ht)
  have U8 := Lib.hid (U7.out.trans ht)
  have K8 := Lib.hid hk
  have N8 := Lib.hid (And.intro hn hc)
  have G8 := Lib.hid (show ∀ q o, 0 < m → ia = some ⟨q, o, none⟩ → q ≠ r ∧ q ≠ p from fun q o h0 e => by
    obtain ⟨g, cp, hv⟩ := Joins.ownsRow_form ho h0
    simp only [Value.slice.injEq] at hv
    have h1 := (ho.lt g (by rw [hv.1]; rfl)).1
    have h2 := U7.out.size
    rw [e] at hv
    obtain ⟨e3, -, -⟩ := hv
    injection e3 with e3; injection e3 with e3 e4
    have h3 := PL.out
    have h4 := lr.out
    omega)
  clear hk hn hc ho hm ht D6
  have D7 := Lib.hid (C7.out w8 M8.out)
  clear C7
  go_wp2_with fail
  with_reducible refine D7.out.mono ?_
  rintro e w9 ⟨rfl, hm, ht⟩
  have M9 := Lib.hid hm
  have T9 := Lib.hid (T8.out.trans ht)
  have U9 := Lib.hid (U8.out.trans ht)
  have K9 := Lib.hid (holdsK_turn K8.out ht (fun q o h0 e => (G8.out q o h0 e).1))
  clear hm ht D7
  obtain ⟨q0, q1, q2, q3, q4, q5, q6, q7⟩ := XB.out
  have y0 := (U9.out.cell PL.out (fun e => by have := lr.out; omega)).trans q0
  have f0 := (U9.out.frozen (o := 0) PL.out (fun e => by have := lr.out; omega)).trans (XF0.out 0)
  have y1 := (U9.out.cell PL.out (fun e => by have := lr.out; omega)).trans q1
  have f1 := (U9.out.frozen (o := 1) PL.out (fun e => by have := lr.out; omega)).trans (XF0.out 1)
  have y2 := (U9.out.cell PL.out (fun e => by have := lr.out; omega)).trans q2
  have f2 := (U9.out.frozen (o := 2) PL.out (fun e => by have := lr.out; omega)).trans (XF0.out 2)
  have y3 := (U9.out.cell PL.out (fun e => by have := lr.out; omega)).trans q3
  have f3 := (U9.out.frozen (o := 3) PL.out (fun e => by have := lr.out; omega)).trans (XF0.out 3)
  have y4 := (U9.out.cell PL.out (fun e => by have := lr.out; omega)).trans q4
  have f4 := (U9.out.frozen (o := 4) PL.out (fun e => by have := lr.out; omega)).trans (XF0.out 4)
  have y5 := (U9.out.cell PL.out (fun e => by have := lr.out; omega)).trans q5
  have f5 := (U9.out.frozen (o := 5) PL.out (fun e => by have := lr.out; omega)).trans (XF0.out 5)
  have y6 := (U9.out.cell PL.out (fun e => by have := lr.out; omega)).trans q6
  have f6 := (U9.out.frozen (o := 6) PL.out (fun e => by have := lr.out; omega)).trans (XF0.out 6)
  have y7 := (U9.out.cell PL.out (fun e => by have := lr.out; omega)).trans q7
  have f7 := (U9.out.frozen (o := 7) PL.out (fun e => by have := lr.out; omega)).trans (XF0.out 7)
  have g0 : (w9.setCell ⟨p, 0, none⟩ (.int .i64 v0)).cell? ⟨p, 0, none⟩ = some (.int .i64 v0) := cset_at (y0)
  have g1 : ((w9.setCell ⟨p, 0, none⟩ (.int .i64 v0)).setCell ⟨p, 1, none⟩ (.int .i64 v1)).cell? ⟨p, 1, none⟩ = some (.int .i64 v1) := cset_at ((cset_ne (by omega)).trans (y1))
  have g2 : (((w9.setCell ⟨p, 0, none⟩ (.int .i64 v0)).setCell ⟨p, 1, none⟩ (.int .i64 v1)).setCell ⟨p, 2, none⟩ (.int .i64 v2)).cell? ⟨p, 2, none⟩ = some (.int .i64 v2) := cset_at ((cset_ne (by omega)).trans ((cset_ne (by omega)).trans (y2)))
  have g3 : ((((w9.setCell ⟨p, 0, none⟩ (.int .i64 v0)).setCell ⟨p, 1, none⟩ (.int .i64 v1)).setCell ⟨p, 2, none⟩ (.int .i64 v2)).setCell ⟨p, 3, none⟩ (.int .i64 v3)).cell? ⟨p, 3, none⟩ = some (.int .i64 v3) := cset_at ((cset_ne (by omega)).trans ((cset_ne (by omega)).trans ((cset_ne (by omega)).trans (y3))))
  have g4 : (((((w9.setCell ⟨p, 0, none⟩ (.int .i64 v0)).setCell ⟨p, 1, none⟩ (.int .i64 v1)).setCell ⟨p, 2, none⟩ (.int .i64 v2)).setCell ⟨p, 3, none⟩ (.int .i64 v3)).setCell ⟨p, 4, none⟩ (.int .i64 v4)).cell? ⟨p, 4, none⟩ = some (.int .i64 v4) := cset_at ((cset_ne (by omega)).trans ((cset_ne (by omega)).trans ((cset_ne (by omega)).trans ((cset_ne (by omega)).trans (y4)))))
  have g5 : ((((((w9.setCell ⟨p, 0, none⟩ (.int .i64 v0)).setCell ⟨p, 1, none⟩ (.int .i64 v1)).setCell ⟨p, 2, none⟩ (.int .i64 v2)).setCell ⟨p, 3, none⟩ (.int .i64 v3)).setCell ⟨p, 4, none⟩ (.int .i64 v4)).setCell ⟨p, 5, none⟩ (.int .i64 v5)).cell? ⟨p, 5, none⟩ = some (.int .i64 v5) := cset_at ((cset_ne (by omega)).trans ((cset_ne (by omega)).trans ((cset_ne (by omega)).trans ((cset_ne (by omega)).trans ((cset_ne (by omega)).trans (y5))))))
  have g6 : (((((((w9.setCell ⟨p, 0, none⟩ (.int .i64 v0)).setCell ⟨p, 1, none⟩ (.int .i64 v1)).setCell ⟨p, 2, none⟩ (.int .i64 v2)).setCell ⟨p, 3, none⟩ (.int .i64 v3)).setCell ⟨p, 4, none⟩ (.int .i64 v4)).setCell ⟨p, 5, none⟩ (.int .i64 v5)).setCell ⟨p, 6, none⟩ (.slice ia m ic)).cell? ⟨p, 6, none⟩ = some (.slice ia m ic) := cset_at ((cset_ne (by omega)).trans ((cset_ne (by omega)).trans ((cset_ne (by omega)).trans ((cset_ne (by omega)).trans ((cset_ne (by omega)).trans ((cset_ne (by omega)).trans (y6)))))))
  have g7 : ((((((((w9.setCell ⟨p, 0, none⟩ (.int .i64 v0)).setCell ⟨p, 1, none⟩ (.int .i64 v1)).setCell ⟨p, 2, none⟩ (.int .i64 v2)).setCell ⟨p, 3, none⟩ (.int .i64 v3)).setCell ⟨p, 4, none⟩ (.int .i64 v4)).setCell ⟨p, 5, none⟩ (.int .i64 v5)).setCell ⟨p, 6, none⟩ (.slice ia m ic)).setCell ⟨p, 7, none⟩ (.bool vf)).cell? ⟨p, 7, none⟩ = some (.bool vf) := cset_at ((cset_ne (by omega)).trans ((cset_ne (by omega)).trans ((cset_ne (by omega)).trans ((cset_ne (by omega)).trans ((cset_ne (by omega)).trans ((cset_ne (by omega)).trans ((cset_ne (by omega)).trans (y7))))))))
  have TS := Lib.hid (show Turn (fun k => k = p) w9 ((((((((w9.setCell ⟨p, 0, none⟩ (.int .i64 v0)).setCell ⟨p, 1, none⟩ (.int .i64 v1)).setCell ⟨p, 2, none⟩ (.int .i64 v2)).setCell ⟨p, 3, none⟩ (.int .i64 v3)).setCell ⟨p, 4, none⟩ (.int .i64 v4)).setCell ⟨p, 5, none⟩ (.int .i64 v5)).setCell ⟨p, 6, none⟩ (.slice ia m ic)).setCell ⟨p, 7, none⟩ (.bool vf)) from ((((((((Turn.setCell (F := fun k => k = p) rfl)).trans (Turn.setCell (F := fun k => k = p) rfl)).trans (Turn.setCell (F := fun k => k = p) rfl)).trans (Turn.setCell (F := fun k => k = p) rfl)).trans (Turn.setCell (F := fun k => k = p) rfl)).trans (Turn.setCell (F := fun k => k = p) rfl)).trans (Turn.setCell (F := fun k => k = p) rfl)).trans (Turn.setCell (F := fun k => k = p) rfl))
  have TT := Lib.hid (show Turn (fun k => k = r) w ((((((((w9.setCell ⟨p, 0, none⟩ (.int .i64 v0)).setCell ⟨p, 1, none⟩ (.int .i64 v1)).setCell ⟨p, 2, none⟩ (.int .i64 v2)).setCell ⟨p, 3, none⟩ (.int .i64 v3)).setCell ⟨p, 4, none⟩ (.int .i64 v4)).setCell ⟨p, 5, none⟩ (.int .i64 v5)).setCell ⟨p, 6, none⟩ (.slice ia m ic)).setCell ⟨p, 7, none⟩ (.bool vf)) from by
    refine T9.out.trans' TS.out (fun i hi => Or.inr ?_)
    rw [HP.out, hi]; omega)
  have MM := Lib.hid (M9.out.fresh TS.out (fun e => by have := lr.out; omega) (fun h0 q o e => by have := AL.out h0 q o e; omega))
  have KK := Lib.hid (holdsK_turn K9.out TS.out (fun q o h0 e => (G8.out q o h0 e).2))
  clear q0 q1 q2 q3 q4 q5 q6 q7 TS
  go_wp2_with fail
  refine bodyPost_ret (v := .agg #[.int .i64 v0, .int .i64 v1, .int .i64 v2, .int .i64 v3, .int .i64 v4, .int .i64 v5, .slice ia m ic, .bool vf]) (by simp [results, go_sem, g0, g1, g2, g3, g4, g5, g6, g7]) rfl ⟨ia, ic, ⟨v0, v1, v2, v3, v4, v5, ia, m, ic, ks, vf⟩, (HV.out ia ic).symm, rfl, KK.out, N8.out.1, N8.out.2, by rw [HS.out]; exact MM.out, TT.out⟩
end Go.Proofs.Ythboiklcjpnhbaa
