/- fair: window (by gen/fa6.py) -/
import Derived.Test.YteloiibejkflhaaQFa5
namespace Go.Proofs.Yteloiibejkflhaa
open Go.RowKit
set_option linter.unusedVariables false
set_option maxRecDepth 20000
theorem HoldsRc.sub {w : World} {b o n : Nat} {xs : List RecP} (h : HoldsRc w (some ⟨b, o, none⟩) n xs) (f m : Nat) (hf : f + m ≤ n) : HoldsRc w (some ⟨b, o + f * 12, none⟩) m ((xs.drop f).take m) := by
  refine ⟨by rw [List.length_take, List.length_drop, h.len]; omega, fun h0 => ?_, fun x hx => h.ok x (List.mem_of_mem_drop (List.mem_of_mem_take hx))⟩
  obtain ⟨b2, o2, e, hc⟩ := h.at_ (by omega)
  injection e with e; injection e with e1 e2; subst e1 e2
  refine ⟨b, o + f * 12, rfl, fun i hi => ?_⟩
  have := hc (f + i) (by omega)
  rw [show o + (f + i) * 12 = o + f * 12 + i * 12 by omega] at this
  have e3 : ((xs.drop f).take m).getD i r0 = xs.getD (f + i) r0 := by
    rw [List.getD_eq_getElem?_getD, List.getD_eq_getElem?_getD, List.getElem?_take, if_pos hi, List.getElem?_drop]
  rw [e3]
  exact this
theorem sliceR (b o n cap f m : Nat) (w : World) (h : f + m ≤ n) (hm : 1 ≤ m) (hc : n ≤ cap) : (Instr.slice 32 (.slice (some ⟨b, o, none⟩) n cap) (some (.int .i64 (f : Int))) (some (.int .i64 ((f : Int) + (m : Int)))) none).run Try.prog w = .ok (.slice (some ⟨b, o + f * 12, none⟩) m (cap - f)) w := by
  rw [run_slice_lh w 32 (some ⟨b, o, none⟩) n cap (by kernel_rfl) .i64 .i64 (f : Int) ((f : Int) + (m : Int)) (by omega) (by omega) (by omega)]
  have hs : (sizeOf (Try.prog.elem 32)).run Try.prog w = .ok 12 w := by kernel_rfl
  rw [hs]
  have e : ((f : Int) + (m : Int)).toNat = f + m := by omega
  have e2 : ((f : Int)).toNat = f := by omega
  have e3 : f + m - f = m := by omega
  simp only [Result.andThen, sliced, e, e2, e3]
  rw [if_neg (by omega)]
  simp [Addr.add]
theorem wfZ_in {x : Int} (h : wfZ x) : -9223372036854775808 ≤ x ∧ x ≤ 9223372036854775807 := by
  unfold wfZ Lit.wf at h
  simp [IntKind.min, IntKind.max, IntKind.signed, IntKind.bits] at h
  omega
def fairB (W : Int) (G H : List Int) (r : List RecP) : Bool := wakesB W r && (r.any tickB && (!r.any (crashB G) && !r.any (loseB H)))
def winB (W : Int) (G H : List Int) (xs : List RecP) (f b : Int) : Bool := decide (1 ≤ b ∧ 0 ≤ f ∧ f ≤ (xs.length : Int) - b) && fairB W G H ((xs.drop f.toNat).take b.toNat)
set_option maxHeartbeats 6400000 in
set_option maxRecDepth 100000 in
theorem vwindow_any (W : Int) (a : Option Addr) (n rc : Nat) (ga : Option Addr) (k gc mb : Nat) (G H : List Int) (xs : List RecP) (f b : Int) (z : Bool) (w : World) (hh : HoldsRc w a n xs) (hn : n ≤ 1000) (hrc : n ≤ rc) (hx : ∀ x ∈ xs, x.ln ≤ 1000) (hW : 0 ≤ W ∧ W ≤ 5) (hg : HoldsI .i64 w ga k G) (hk : k ≤ 1000) (hm : HM w mb H) (hf : wfZ f) (hb : wfZ b) (hz : winB W G H xs f b = z) :
    Calls Try.prog 24 #[.agg #[.int .i64 W, .slice a n rc, .slice ga k gc, .map (some mb)], .int .i64 f, .int .i64 b] w fun e w' => e = .returned (.bool z) ∧ Below w.heap.size w w' := by
  have BX := Lib.hid (below_one w (.cells #[.int .i64 W, .slice a n rc, .slice ga k gc, .map (some mb)] 60))
  have VN := view_new w W a n rc ga k gc mb w.heap.size rfl 60
  have HX := Lib.hid (heap_alloc_new w (.cells #[.int .i64 W, .slice a n rc, .slice ga k gc, .map (some mb)] 60))
  have hlen := hh.len
  have hf := wfZ_in hf
  have hb := wfZ_in hb
  unfold winB at hz
  rw [hlen] at hz
  by_cases b1 : b < 1
  · have d1 : decide (b < 1) = true := decide_eq_true b1
    rw [decide_eq_false (by omega)] at hz
    have HZ := Lib.hid hz
    clear hh hx hg hm VN hz
    go_enter Try.func24, Try.ntmps24
    go_wp2_with fail
    go_ret
    exact ⟨by rw [← HZ.out]; rfl, BX.out⟩
  have d1 : decide (b < 1) = false := decide_eq_false b1
  by_cases f1 : f < 0
  · have d2 : decide (f < 0) = true := decide_eq_true f1
    rw [decide_eq_false (by omega)] at hz
    have HZ := Lib.hid hz
    clear hh hx hg hm VN hz
    go_enter Try.func24, Try.ntmps24
    go_wp2_with fail
    go_ret
    exact ⟨by rw [← HZ.out]; rfl, BX.out⟩
  have d2 : decide (f < 0) = false := decide_eq_false f1
  have v1 := VN.1.2
  have ew : IntKind.i64.wrap ((n : Int) - b) = (n : Int) - b := by rw [IntKind.wrap_i64]; omega
  by_cases g1 : f > (n : Int) - b
  · have d3 : decide (f > (n : Int) - b) = true := decide_eq_true g1
    have d3' : decide ((n : Int) - b < f) = true := decide_eq_true (by omega)
    rw [decide_eq_false (by omega)] at hz
    have HZ := Lib.hid hz
    obtain ⟨w1, hw1⟩ : ∃ w1, w.alloc (.cells #[.int .i64 W, .slice a n rc, .slice ga k gc, .map (some mb)] 60) = w1 := ⟨_, rfl⟩
    obtain ⟨q, hq⟩ : ∃ q, w.heap.size = q := ⟨_, rfl⟩
    rw [hw1, hq] at v1
    rw [hw1] at BX
    have HQ := Lib.hid hq
    clear hh hx hg hm VN hz HX
    go_enter Try.func24, Try.ntmps24
    go_upto_region 1 with fail
    try rw [hw1]
    try rw [hq]
    clear hw1 hq
    go_wp2_with fail
    go_ret
    exact ⟨by rw [← HZ.out]; rfl, BX.out⟩
  have d3 : decide (f > (n : Int) - b) = false := decide_eq_false g1
  have d3' : decide ((n : Int) - b < f) = false := decide_eq_false (by omega)
  rw [decide_eq_true (by omega), Bool.true_and] at hz
  obtain ⟨m, rfl⟩ : ∃ m : Nat, b = (m : Int) := ⟨b.toNat, by omega⟩
  obtain ⟨i, rfl⟩ : ∃ i : Nat, f = (i : Int) := ⟨f.toNat, by omega⟩
  rw [Int.toNat_natCast, Int.toNat_natCast] at hz
  obtain ⟨rb, ro, rfl, -⟩ := hh.at_ (by omega)
  have HR := Lib.hid (hh.sub i m (by omega))
  have LX := Lib.hid (show ∀ x ∈ (xs.drop i).take m, x.ln ≤ 1000 from fun x h => hx x (List.mem_of_mem_drop (List.mem_of_mem_take h)))
  obtain ⟨r, hr⟩ : ∃ r, (xs.drop i).take m = r := ⟨_, rfl⟩
  rw [hr] at HR LX hz
  unfold fairB at hz
  obtain ⟨z1, hz1⟩ : ∃ z1, wakesB W r = z1 := ⟨_, rfl⟩
  obtain ⟨z2, hz2⟩ : ∃ z2, r.any tickB = z2 := ⟨_, rfl⟩
  obtain ⟨z3, hz3⟩ : ∃ z3, r.any (crashB G) = z3 := ⟨_, rfl⟩
  obtain ⟨z4, hz4⟩ : ∃ z4, r.any (loseB H) = z4 := ⟨_, rfl⟩
  rw [hz1, hz2, hz3, hz4] at hz
  obtain ⟨w1, hw1⟩ : ∃ w1, w.alloc (.cells #[.int .i64 W, .slice (some ⟨rb, ro, none⟩) n rc, .slice ga k gc, .map (some mb)] 60) = w1 := ⟨_, rfl⟩
  obtain ⟨q, hq⟩ : ∃ q, w.heap.size = q := ⟨_, rfl⟩
  rw [hw1, hq] at v1 HX
  rw [hw1] at BX
  have CE := Lib.hid (fun (w' : World) (hb : Below w1.heap.size w1 w') => show w'.cell? ⟨q, 0, none⟩ = some (.int .i64 W) ∧ w'.cell? ⟨q, 1, none⟩ = some (.slice (some ⟨rb, ro, none⟩) n rc) ∧ w'.cell? ⟨q, 2, none⟩ = some (.slice ga k gc) ∧ w'.cell? ⟨q, 3, none⟩ = some (.map (some mb)) from ⟨cellT (i := 0) (keepT HX.out hb) rfl, cellT (i := 1) (keepT HX.out hb) rfl, cellT (i := 2) (keepT HX.out hb) rfl, cellT (i := 3) (keepT HX.out hb) rfl⟩)
  have CW := Lib.hid (fun (w' : World) (hb : Below w1.heap.size w1 w') => vwakes_any W (some ⟨rb, ro, none⟩) n rc ga k gc mb (some ⟨rb, ro + i * 12, none⟩) m (rc - i) r w' ((HR.out.below BX.out).below hb) (by omega) hW)
  have CT := Lib.hid (fun (w' : World) (hb : Below w1.heap.size w1 w') => fticks_any (some ⟨rb, ro + i * 12, none⟩) m (rc - i) r w' ((HR.out.below BX.out).below hb) (by omega))
  have CC := Lib.hid (fun (w' : World) (hb : Below w1.heap.size w1 w') => vcrashes_any W (some ⟨rb, ro, none⟩) n rc ga k gc mb G (some ⟨rb, ro + i * 12, none⟩) m (rc - i) r w' ((HR.out.below BX.out).below hb) (by omega) ((hg.below BX.out).below hb) hk)
  have CL := Lib.hid (fun (w' : World) (hb : Below w1.heap.size w1 w') => vloses_any W (some ⟨rb, ro, none⟩) n rc ga k gc mb H (some ⟨rb, ro + i * 12, none⟩) m (rc - i) r w' ((HR.out.below BX.out).below hb) (by omega) LX.out ((hm.below BX.out).below hb))
  rw [hz1] at CW
  rw [hz2] at CT
  rw [hz3] at CC
  rw [hz4] at CL
  have HZ := Lib.hid hz
  have HQ := Lib.hid hq
  have ew2 : IntKind.i64.wrap ((i : Int) + (m : Int)) = (i : Int) + (m : Int) := by rw [IntKind.wrap_i64]; omega
  have SL := Lib.hid (sliceR rb ro n rc i m w1 (by omega) (by omega) hrc)
  clear hh hx hg hm VN hz hz1 hz2 hz3 hz4 hr LX HR
  go_enter Try.func24, Try.ntmps24
  go_upto_region 1 with fail
  try rw [hw1]
  try rw [hq]
  clear hw1 hq
  have sl := SL.out
  go_upto_region 4 with fail
  obtain ⟨x0, x1, x2, x3⟩ := CE.out _ (Below.refl _ _)
  clear sl SL v1 ew ew2 d1 d2 d3 d3'
  cases z1
  · go_wp2_with (first | (go_at_call 35; refine (CW.out _ (Below.refl _ _)).mono ?_; rintro e wA ⟨rfl, hbA⟩) | fail)
    go_ret
    exact ⟨by rw [← HZ.out]; rfl, BX.out.trans (hbA.mono BX.out.size)⟩
  cases z2
  · go_wp2_with (first | (go_at_call 35; refine (CW.out _ (Below.refl _ _)).mono ?_; rintro e wA ⟨rfl, hbA⟩) | (go_at_call 36; refine (CT.out _ hbA).mono ?_; rintro e wB ⟨rfl, hbB⟩; have hbB2 := hbA.trans (hbB.mono hbA.size); obtain ⟨p0, p1, p2, p3⟩ := CE.out _ hbB2) | fail)
    go_ret
    exact ⟨by rw [← HZ.out]; rfl, BX.out.trans (hbB2.mono BX.out.size)⟩
  cases z3
  case true =>
    go_wp2_with (first | (go_at_call 35; refine (CW.out _ (Below.refl _ _)).mono ?_; rintro e wA ⟨rfl, hbA⟩) | (go_at_call 36; refine (CT.out _ hbA).mono ?_; rintro e wB ⟨rfl, hbB⟩; have hbB2 := hbA.trans (hbB.mono hbA.size); obtain ⟨p0, p1, p2, p3⟩ := CE.out _ hbB2) | (go_at_call 37; refine (CC.out _ hbB2).mono ?_; rintro e wC ⟨rfl, hbC⟩; have hbC2 := hbB2.trans (hbC.mono hbB2.size); obtain ⟨r0', r1, r2, r3⟩ := CE.out _ hbC2) | fail)
    go_ret
    exact ⟨by rw [← HZ.out]; rfl, BX.out.trans (hbC2.mono BX.out.size)⟩
  case false =>
    go_wp2_with (first | (go_at_call 35; refine (CW.out _ (Below.refl _ _)).mono ?_; rintro e wA ⟨rfl, hbA⟩) | (go_at_call 36; refine (CT.out _ hbA).mono ?_; rintro e wB ⟨rfl, hbB⟩; have hbB2 := hbA.trans (hbB.mono hbA.size); obtain ⟨p0, p1, p2, p3⟩ := CE.out _ hbB2) | (go_at_call 37; refine (CC.out _ hbB2).mono ?_; rintro e wC ⟨rfl, hbC⟩; have hbC2 := hbB2.trans (hbC.mono hbB2.size); obtain ⟨r0', r1, r2, r3⟩ := CE.out _ hbC2) | (go_at_call 38; refine (CL.out _ hbC2).mono ?_; rintro e wD ⟨rfl, hbD⟩; have hbD2 := hbC2.trans (hbD.mono hbC2.size)) | fail)
    go_ret
    exact ⟨by rw [← HZ.out]; rfl, BX.out.trans (hbD2.mono BX.out.size)⟩
end Go.Proofs.Yteloiibejkflhaa
