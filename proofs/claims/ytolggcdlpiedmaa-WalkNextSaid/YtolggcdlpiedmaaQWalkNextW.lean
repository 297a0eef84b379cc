/- WalkNext: the next words are the document's -/
import Derived.Test.YtolggcdlpiedmaaPkE
namespace Go.Proofs.Ytolggcdlpiedmaa
open Go.RowKit
set_option linter.unusedVariables false
set_option maxRecDepth 20000
set_option maxRecDepth 100000 in
set_option maxHeartbeats 3200000 in
theorem walkNext_law (a : Option Addr) (n ca : Nat) (ts : List Tx) (s : Tx) (k : Int) (first : Bool) (av : KV) (batch : Int) (w : World) (hh : HoldsT w a n ts) (hc : n ≤ ca) (hn : n ≤ 9223372036854775807) (hsz : ∀ t ∈ ts, t.size ≤ 9223372036854775807) (hs : s.size ≤ 9223372036854775807) (hav : av.2.size ≤ 9223372036854775807) :
    Calls Try.prog 3 #[.slice a n ca, .string s, .int .i64 k, .bool first, .agg #[.int .i64 av.1, .string av.2], .int .i64 batch] w fun e w' => e = .returned (.bool true) ∧ Below w.heap.size w w' := by
  have B1 := Lib.hid (below_one w (.cells #[.int .i64 av.1, .string av.2] 24))
  have KB := Lib.hid (show KBox w.heap.size av (w.alloc (.cells #[.int .i64 av.1, .string av.2] 24)) from ⟨by rw [World.cell?_alloc_mark]; rfl, by rw [World.cell?_alloc_mark]; rfl⟩)
  obtain ⟨w1, hw1⟩ : ∃ w1, w.alloc (.cells #[.int .i64 av.1, .string av.2] 24) = w1 := ⟨_, rfl⟩
  have hz1 : w.heap.size < w1.heap.size := by rw [← hw1]; simp
  have HW := Lib.hid hw1
  rw [hw1] at B1 KB
  have H0 := Lib.hid hh
  have H1 := Lib.hid (hh.below B1.out)
  have AW := Lib.hid (fun w => awakeW_any w)
  obtain ⟨gr, hgr⟩ : ∃ c, greatW ts s = c := ⟨_, rfl⟩
  have CG := Lib.hid (greatW_any a n ca ts s gr w1 H1.out hn hsz hs hgr)
  clear hw1 hh
  go_enter Try.func3, Try.ntmps3
  go_upto_region 1 with fail
  rw [HW.out]
  go_wp2_with fail
  refine CG.out.mono ?_
  rintro e w2 ⟨rfl, hb2⟩
  have B2 := Lib.hid (B1.out.trans (hb2.mono B1.out.size))
  have KB2 := Lib.hid (KB.out.more hb2 hz1)
  obtain ⟨d0, d1⟩ := KB2.out
  clear hb2 KB B1 CG HW
  by_cases hbig : gr = true ∨ 100 < av.2.size
  · rcases hbig with rfl | hbig
    · go_wp2_with fail
      refine (AW.out _).mono ?_
      rintro e w3 ⟨rfl, hb3⟩
      go_wp2_with fail
      go_ret
      exact ⟨rfl, B2.out.trans (hb3.mono B2.out.size)⟩
    · cases gr with
      | true =>
        go_wp2_with fail
        refine (AW.out _).mono ?_
        rintro e w3 ⟨rfl, hb3⟩
        go_wp2_with fail
        go_ret
        exact ⟨rfl, B2.out.trans (hb3.mono B2.out.size)⟩
      | false =>
        go_wp2_with fail
        refine (AW.out _).mono ?_
        rintro e w3 ⟨rfl, hb3⟩
        go_wp2_with fail
        go_ret
        exact ⟨rfl, B2.out.trans (hb3.mono B2.out.size)⟩
  · obtain rfl : gr = false := by cases gr <;> simp_all
    have hav100 : av.2.size ≤ 100 := by
      have : ¬ 100 < av.2.size := fun h => hbig (.inr h)
      omega
    obtain ⟨hl80, hs100, hss⟩ := greatW_no hgr
    have HSS := Lib.hid hs100
    have hlen : ts.length = n := H0.out.len
    clear hbig hgr hs100 hsz
    obtain ⟨v, hv⟩ : ∃ v, goodV ts = v := ⟨_, rfl⟩
    by_cases hv0 : v = 0
    · subst hv0
      have CB := Lib.hid (buildW_good a n ca ts w2 (H0.out.below B2.out) hc (by omega) HSS.out hv)
      clear hv
      go_wp2_with fail
      refine CB.out.mono ?_
      rintro e w3 ⟨g, rfl, hg, hb3⟩
      have G3 := Lib.hid hg
      have B3 := Lib.hid (B2.out.trans (hb3.mono B2.out.size))
      have hz2 : w.heap.size < w2.heap.size := lt_of_cell d0
      have hz23 : w2.heap.size ≤ w3.heap.size := hb3.size
      obtain ⟨d0, d1⟩ := KB2.out.more hb3 hz2
      have KB3 := Lib.hid (show KBox w.heap.size av w3 from ⟨d0, d1⟩)
      obtain ⟨F, hF⟩ : ∃ F, restK first av (matchK ts s k) = F := ⟨_, rfl⟩
      obtain ⟨m, hm⟩ : ∃ m, cntK batch F.length = m := ⟨_, rfl⟩
      obtain ⟨ys, hy⟩ : ∃ ys, F.take m = ys := ⟨_, rfl⟩
      obtain ⟨b, hb⟩ : ∃ b, decide (m = F.length) = b := ⟨_, rfl⟩
      have hm100 : m ≤ 100 := by
        have h1 : m ≤ F.length := by rw [← hm]; unfold cntK; omega
        have h2 : F.length ≤ (matchK ts s k).length := by
          rw [← hF]; unfold restK; rw [← sortK_length (matchK ts s k)]
          split
          · exact Nat.le_refl _
          · exact List.length_filter_le _ _
        have := matchK_len ts s k
        omega
      have CN := Lib.hid (fun w' (hg : GrOk g ts w') => next_c g ts s k first av batch F ys m b w' hg (by omega) hF hm hy hb)
      have CR := Lib.hid (fun w' (hh : HoldsT w' a n ts) => rnext_any a n ca ts s k first av batch F ys m b w' hh (by omega) (fun t ht => by have := HSS.out t ht; omega) (by omega) (by omega) hF hm hy hb)
      clear hb3 hg KB2 CB hF hm hy hb
      go_wp2_with fail
      refine (CN.out _ G3.out).mono ?_
      rintro e w4 ⟨a4, rfl, hc4, hna4, hb4⟩
      have B4 := Lib.hid (B3.out.trans (hb4.mono B3.out.size))
      have C4 := Lib.hid hc4
      have CL4 := Lib.hid hc4
      have NA := Lib.hid hna4
      have G4 := Lib.hid (G3.out.below hb4)
      have KB4 := Lib.hid (KB3.out.more hb4 (lt_of_cell d0))
      have hz34 : w3.heap.size ≤ w4.heap.size := hb4.size
      have HB34 := Lib.hid hb4
      clear hb4 hc4 hna4 d0 d1
      obtain ⟨d0, d1⟩ := KB4.out
      go_wp2_with fail
      refine (CR.out _ (H0.out.below B4.out)).mono ?_
      rintro e w5 ⟨a5, c5, rfl, o5, hb5⟩
      have B5 := Lib.hid (B4.out.trans (hb5.mono B4.out.size))
      have C5 := Lib.hid (C4.out.below hb5)
      have R5 := Lib.hid (HoldsK.own o5)
      have KB5 := Lib.hid (KB4.out.more hb5 (lt_of_cell d0))
      have hz45 : w4.heap.size ≤ w5.heap.size := hb5.size
      have HB35 := Lib.hid (HB34.out.trans (hb5.mono hz34))
      have O5 := Lib.hid o5
      clear hb5 o5 d0 d1 C4 B4 CR
      obtain ⟨d0, d1⟩ := KB5.out
      go_wp2_with fail
      refine (sameItems_yes a4 a5 m m c5 ys w5 C5.out.holds R5.out (by omega)).mono ?_
      rintro e w6 ⟨rfl, hb6⟩
      have B6 := Lib.hid (B5.out.trans (hb6.mono B5.out.size))
      have C6 := Lib.hid (C5.out.below hb6)
      have O6 := Lib.hid (owns_below O5.out hb6)
      have KB6 := Lib.hid (KB5.out.more hb6 (lt_of_cell d0))
      have hz56 : w5.heap.size ≤ w6.heap.size := hb6.size
      have HB36 := Lib.hid (HB35.out.trans (hb6.mono (by omega)))
      have G6 := Lib.hid ((G4.out.below (Below.refl _ _)))
      clear hb6 C5 O5 B5 R5 d0 d1
      obtain ⟨d0, d1⟩ := KB6.out
      have HLT := Lib.hid (show ∀ r, (Value.slice a4 m m).ownBlock = some r → r < w4.heap.size from by
        intro r hr
        obtain ⟨_, mm, cc, zs, ho, _, _⟩ := CL4.out
        exact (ho.lt r (by cases a4 <;> simp_all [Value.ownBlock])).2)
      have CO := Lib.hid (overCut_any w3.heap.size a4 m ys w6 C6.out NA.out (by omega) (by omega))
      clear C6 CL4
      cases b
      all_goals
        go_wp2_with fail
        refine CO.out.mono ?_
        rintro e w7 ⟨rfl, hb7, hg7⟩
        have B7 := Lib.hid (B6.out.trans (hb7.mono (by have := B3.out.size; omega)))
        have G7 := Lib.hid (G3.out.below (HB36.out.trans hb7))
        have KB7 := Lib.hid (KB6.out.more hb7 (by omega))
        have O7 := Lib.hid (O6.out.kept hg7 (by
          rcases hq : (Value.slice a5 m c5).ownBlock with _ | r
          · exact .inl rfl
          · refine .inr fun e => ?_
            have h1 := HLT.out r e.symm
            have h2 := (O6.out.lt r hq).1
            omega))
        clear hb7 hg7 B6 KB6 O6 CO d0 d1
        obtain ⟨d0, d1⟩ := KB7.out
        go_wp2_with fail
        refine (CN.out _ G7.out).mono ?_
        rintro e w8 ⟨a8, rfl, hc8, hna8, hb8⟩
        have B8 := Lib.hid (B7.out.trans (hb8.mono B7.out.size))
        have H8 := Lib.hid hc8.holds
        have R8 := Lib.hid (HoldsK.own (owns_below O7.out hb8))
        clear hb8 hc8 hna8 B7 O7 d0 d1 KB7
        go_wp2_with fail
        refine (sameItems_yes a8 a5 m m c5 ys w8 H8.out R8.out (by omega)).mono ?_
        rintro e w9 ⟨rfl, hb9⟩
        have B9 := Lib.hid (B8.out.trans (hb9.mono B8.out.size))
        clear hb9 B8
        go_wp2_with fail
        refine (AW.out _).mono ?_
        rintro e w10 ⟨rfl, hb10⟩
        go_wp2_with fail
        go_ret
        exact ⟨rfl, B9.out.trans (hb10.mono B9.out.size)⟩
    · have CB := Lib.hid (build_bad a n ca ts v w2 (H0.out.below B2.out) (by omega) (fun t ht => by have := HSS.out t ht; omega) hv hv0)
      have hvn : (v != 0) = true := by simpa using hv0
      clear hv
      go_wp2_with fail
      refine CB.out.mono ?_
      rintro e w3 ⟨rfl, hb3⟩
      have B3 := Lib.hid (B2.out.trans (hb3.mono B2.out.size))
      clear hb3
      go_wp2_with fail
      refine (AW.out _).mono ?_
      rintro e w4 ⟨rfl, hb4⟩
      go_wp2_with fail
      go_ret
      exact ⟨rfl, B3.out.trans (hb4.mono B3.out.size)⟩
open Go.ChangeShapes Go.WideShapes Go.ChangeAt in
open Go.ChangeMaps (open_string) in
theorem walkNext_walk {H : Type} {enc : TypeId × Value → H} (W : World) (base : Nat) (v0 v1 v2 v3 v4 v5 : Value) (d0 d1 d2 d3 d4 d5 : DataW H) (p0 p1 p2 p3 p4 p5 : List MemPlace)
    (h0 : DataW.Trod enc Try.prog W 0 (fun _ => true) true 22 v0 d0 p0) (h1 : DataW.Trod enc Try.prog W 0 (fun _ => true) true 9 v1 d1 p1) (h2 : DataW.Trod enc Try.prog W 0 (fun _ => true) true 3 v2 d2 p2) (h3 : DataW.Trod enc Try.prog W 0 (fun _ => true) true 4 v3 d3 p3) (h4 : DataW.Trod enc Try.prog W 0 (fun _ => true) true 24 v4 d4 p4) (h5 : DataW.Trod enc Try.prog W 0 (fun _ => true) true 3 v5 d5 p5)
    (o0 : Value.okWide Try.prog W .any base 22 v0) (o1 : Value.okWide Try.prog W .any base 9 v1) (o2 : Value.okWide Try.prog W .any base 3 v2) (o3 : Value.okWide Try.prog W .any base 4 v3) (o4 : Value.okWide Try.prog W .any base 24 v4) (o5 : Value.okWide Try.prog W .any base 3 v5) :
    Calls Try.prog 3 #[v0, v1, v2, v3, v4, v5] W fun e w' => e = .returned (.bool true) ∧ RowKit.Below W.heap.size W w' := by
  obtain ⟨a0, n0, c0, k0, rfl, x0, y0, z0, b0, s0⟩ := open_texts_arg o0 h0
  obtain ⟨t, rfl, rfl, rfl, ht⟩ := open_string Try.underlying9 o1 h1
  unfold maxLen at ht
  obtain ⟨x2, rfl, rfl, rfl, b2⟩ := open_int Try.underlying3 o2 h2
  obtain ⟨x3, rfl, rfl, rfl⟩ := open_bool Try.underlying4 o3 h3
  obtain ⟨x4, hx4, rfl⟩ := open_pair Try.underlying24 (by kernel_rfl) rfl rfl ⟨rfl, rfl⟩ ⟨rfl, rfl⟩ o4 h4
  obtain ⟨x5, rfl, rfl, rfl, b5⟩ := open_int Try.underlying3 o5 h5
  exact walkNext_law a0 n0 c0 k0 t x2 x3 x4 x5 W x0 z0 b0 s0 (by omega) hx4.2
end Go.Proofs.Ytolggcdlpiedmaa
