/- WalkDists: the words at just a distance are the document's; of no graph there are none -/
import Derived.Test.YtolggcdlpiedmaaPkE
import Derived.Test.YtolggcdlpiedmaaPkA
namespace Go.Proofs.Ytolggcdlpiedmaa
open Go.RowKit
set_option linter.unusedVariables false
set_option maxRecDepth 20000
theorem near_ord {ws : List Tx} (h : SortedS ws) (s : Tx) (k : Int) : (nearL ws s k).Pairwise fun a b => cmpS a.2 b.2 < 0 := by
  induction ws with
  | nil => exact List.Pairwise.nil
  | cons t ws ih =>
    obtain ⟨h1, h2⟩ := List.pairwise_cons.1 h
    rw [nearL_cons]
    split
    · exact List.pairwise_cons.2 ⟨fun x hx => h1 x.2 (nearL_mem.1 hx).1, ih h2⟩
    · exact ih h2
theorem match_ord {ts : List Tx} (h : SortedS ts) (s : Tx) (k : Int) : (matchK ts s k).Pairwise fun a b => cmpS a.2 b.2 < 0 := by
  unfold matchK; split
  · exact near_ord h s k
  · exact List.Pairwise.nil
theorem dists_sort {M : List KV} (h : M.Pairwise fun a b => cmpS a.2 b.2 < 0) (d : Int) : distsL (sortK M) d = distsL M d := by
  unfold distsL
  rw [← sortK_filter]
  congr 1
  refine sortK_same ?_
  unfold SortedK
  have h2 := h.filter (fun x => decide (x.1 = d))
  refine List.Pairwise.imp_of_mem ?_ h2
  intro a b ha hb hab
  have e1 := of_decide_eq_true (List.mem_filter.1 ha).2
  have e2 := of_decide_eq_true (List.mem_filter.1 hb).2
  refine leK_of_lt ?_
  unfold ordK
  rw [if_neg (by omega), if_neg (by omega)]
  exact hab
theorem dists_c (g : Nat) (ts : List Tx) (s : Tx) (d : Int) (ys : List Tx) (n : Nat) (w : World) (h : GrOk g ts w) (hs : s.size ≤ 1048576) (hy : distsL (matchK ts s d) d = ys) (hn : ys.length = n) :
    Calls Try.prog 19 #[.pointer (some ⟨g, 0, none⟩), .string s, .int .i64 d] w fun e w' => ∃ a c, e = .returned (.slice a n c) ∧ w'.ownsRow w.heap.size 9 1 (.slice a n c) n (strsV ys) ∧ Below w.heap.size w w' := by
  subst hn
  exact dists_any (.pointer (some ⟨g, 0, none⟩)) s d (matchK ts s d) ys w (matches_all g ts s d w h hs) (by
    have := matchK_len ts s d
    have := (good_graph h).1; omega) hy
theorem dists_none (s : Tx) (d : Int) (w : World) (hs : s.size ≤ 1048576) :
    Calls Try.prog 19 #[.pointer none, .string s, .int .i64 d] w fun e w' => ∃ a c, e = .returned (.slice a 0 c) ∧ Below w.heap.size w w' :=
  (dists_any (.pointer none) s d [] [] w (matches_nil s d w hs) (by simp) rfl).mono (by rintro e w' ⟨a, c, rfl, _, hb⟩; exact ⟨a, c, rfl, hb⟩)
theorem next_none (s : Tx) (k : Int) (first : Bool) (av : KV) (batch : Int) (w : World) (hs : s.size ≤ 1048576) :
    Calls Try.prog 15 #[.pointer none, .string s, .int .i64 k, .bool first, .agg #[.int .i64 av.1, .string av.2], .int .i64 batch] w fun e w' => ∃ a, e = .returned (.tuple #[.slice a 0 0, .bool true]) ∧ Below w.heap.size w w' := by
  have hF : restK first av [] = [] := by unfold restK; cases first <;> rfl
  refine (next_any (.pointer none) s k first av batch [] [] [] 0 true w (fun w' hb => matches_nil s k w' hs) (by simp) hF (by unfold cntK; simp; omega) rfl rfl).mono ?_
  rintro e w' ⟨a, rfl, _, _, hb⟩
  exact ⟨a, rfl, hb⟩
set_option maxRecDepth 100000 in
set_option maxHeartbeats 3200000 in
theorem walkDists_law (a : Option Addr) (n ca : Nat) (ts : List Tx) (s : Tx) (d : Int) (w : World) (hh : HoldsT w a n ts) (hc : n ≤ ca) (hn : n ≤ 9223372036854775807) (hsz : ∀ t ∈ ts, t.size ≤ 9223372036854775807) (hs : s.size ≤ 9223372036854775807) :
    Calls Try.prog 4 #[.slice a n ca, .string s, .int .i64 d] w fun e w' => e = .returned (.bool true) ∧ Below w.heap.size w w' := by
  have H0 := Lib.hid hh
  have AW := Lib.hid (fun w => awakeW_any w)
  obtain ⟨gr, hgr⟩ : ∃ c, greatW ts s = c := ⟨_, rfl⟩
  have CG := Lib.hid (greatW_any a n ca ts s gr w hh hn hsz hs hgr)
  clear hh
  go_enter Try.func4, Try.ntmps4
  go_wp2_with fail
  refine CG.out.mono ?_
  rintro e w2 ⟨rfl, hb2⟩
  have B2 := Lib.hid hb2
  clear hb2 CG
  cases gr with
  | true =>
    go_wp2_with fail
    refine (AW.out _).mono ?_
    rintro e w3 ⟨rfl, hb3⟩
    go_wp2_with fail
    go_ret
    exact ⟨rfl, B2.out.trans (hb3.mono B2.out.size)⟩
  | false =>
    obtain ⟨hl80, hs100, hss⟩ := greatW_no hgr
    have HSS := Lib.hid hs100
    have hlen : ts.length = n := H0.out.len
    clear hgr hs100 hsz
    obtain ⟨v, hv⟩ : ∃ v, goodV ts = v := ⟨_, rfl⟩
    by_cases hv0 : v = 0
    · subst hv0
      have CB := Lib.hid (buildW_good a n ca ts w2 (H0.out.below B2.out) hc (by omega) HSS.out hv)
      clear hv
      go_wp2_with fail
      refine CB.out.mono ?_
      rintro e w3 ⟨g, rfl, hg, hb3⟩
      have G3 := Lib.hid hg
      have B3 := Lib.hid (B2.out.trans (hb3.mono B2.out.size))
      obtain ⟨ys, hy⟩ : ∃ ys, distsL (matchK ts s d) d = ys := ⟨_, rfl⟩
      have hy2 : distsL (sortK (matchK ts s d)) d = ys := by rw [dists_sort (match_ord hg.sorted s d), hy]
      obtain ⟨m, hm⟩ : ∃ m, ys.length = m := ⟨_, rfl⟩
      have hm100 : m ≤ 100 := by
        have h1 := distsL_len (matchK ts s d) d
        have := matchK_len ts s d
        rw [hy] at h1; omega
      have CN := Lib.hid (fun w' (hg : GrOk g ts w') => dists_c g ts s d ys m w' hg (by omega) hy hm)
      have CR := Lib.hid (fun w' (hh : HoldsT w' a n ts) => rdists_any a n ca ts s d ys w' hh (by omega) (fun t ht => by have := HSS.out t ht; omega) (by omega) hy2)
      have HM := Lib.hid hm
      clear hb3 hg CB hy hy2 hm
      go_wp2_with fail
      refine (CN.out _ G3.out).mono ?_
      rintro e w4 ⟨a4, c4, rfl, o4, hb4⟩
      have B4 := Lib.hid (B3.out.trans (hb4.mono B3.out.size))
      have O4 := Lib.hid o4
      have HB34 := Lib.hid hb4
      have hz34 : w3.heap.size ≤ w4.heap.size := hb4.size
      clear hb4 o4
      go_wp2_with fail
      refine (CR.out _ (H0.out.below B4.out)).mono ?_
      rintro e w5 ⟨a5, c5, rfl, o5, hb5⟩
      rw [HM.out] at o5 ⊢
      have B5 := Lib.hid (B4.out.trans (hb5.mono B4.out.size))
      have O5 := Lib.hid (owns_below O4.out hb5)
      have R5 := Lib.hid (HoldsT.own o5)
      have HB35 := Lib.hid (HB34.out.trans (hb5.mono hz34))
      have hz45 : w4.heap.size ≤ w5.heap.size := hb5.size
      clear hb5 o5 O4 B4 HB34
      go_wp2_with fail
      refine (sameTexts_yes a4 a5 m c4 c5 ys w5 (HoldsT.own O5.out) R5.out (by omega)).mono ?_
      rintro e w6 ⟨rfl, hb6⟩
      have B6 := Lib.hid (B5.out.trans (hb6.mono B5.out.size))
      have O6 := Lib.hid (owns_below O5.out hb6)
      have HB36 := Lib.hid (HB35.out.trans (hb6.mono (by omega)))
      have hz56 : w5.heap.size ≤ w6.heap.size := hb6.size
      clear hb6 O5 B5 R5 HB35
      have CO := Lib.hid (ovgTexts_any w3.heap.size a4 m c4 (strsV ys) w6 O6.out (by omega) (by omega))
      go_wp2_with fail
      refine CO.out.mono ?_
      rintro e w7 ⟨rfl, hb7, -⟩
      have B7 := Lib.hid (B6.out.trans (hb7.mono (by have := B3.out.size; omega)))
      have G7 := Lib.hid (G3.out.below (HB36.out.trans hb7))
      clear hb7 O6 CO B6
      go_wp2_with fail
      refine (next_none s 1 true (0, ⟨#[]⟩) 3 w7 (by omega)).mono ?_
      rintro e w8 ⟨a8, rfl, hb8⟩
      have B8 := Lib.hid (B7.out.trans (hb8.mono B7.out.size))
      have G8 := Lib.hid (G7.out.below hb8)
      clear hb8 B7 G7
      go_wp2_with fail
      refine (CN.out _ G8.out).mono ?_
      rintro e w9 ⟨a9, c9, rfl, o9, hb9⟩
      have B9 := Lib.hid (B8.out.trans (hb9.mono B8.out.size))
      have R9 := Lib.hid (HoldsT.own o9)
      clear hb9 o9 B8
      go_wp2_with fail
      refine (CR.out _ (H0.out.below B9.out)).mono ?_
      rintro e w10 ⟨a10, c10, rfl, o10, hb10⟩
      rw [HM.out] at o10 ⊢
      have B10 := Lib.hid (B9.out.trans (hb10.mono B9.out.size))
      have S9 := Lib.hid (R9.out.below hb10)
      have S10 := Lib.hid (HoldsT.own o10)
      clear hb10 o10 B9
      go_wp2_with fail
      refine (sameTexts_yes a9 a10 m c9 c10 ys w10 S9.out S10.out (by omega)).mono ?_
      rintro e w11 ⟨rfl, hb11⟩
      have B11 := Lib.hid (B10.out.trans (hb11.mono B10.out.size))
      clear hb11 B10
      go_wp2_with fail
      refine (dists_none s d w11 (by omega)).mono ?_
      rintro e w12 ⟨a12, c12, rfl, hb12⟩
      have B12 := Lib.hid (B11.out.trans (hb12.mono B11.out.size))
      clear hb12 B11
      go_wp2_with fail
      refine (AW.out _).mono ?_
      rintro e w13 ⟨rfl, hb13⟩
      go_wp2_with fail
      go_ret
      exact ⟨rfl, B12.out.trans (hb13.mono B12.out.size)⟩
    · have CB := Lib.hid (build_bad a n ca ts v w2 (H0.out.below B2.out) (by omega) (fun t ht => by have := HSS.out t ht; omega) hv hv0)
      have hvn : (v != 0) = true := by simpa using hv0
      clear hv
      go_wp2_with fail
      refine CB.out.mono ?_
      rintro e w3 ⟨rfl, hb3⟩
      have B3 := Lib.hid (B2.out.trans (hb3.mono B2.out.size))
      clear hb3
      go_wp2_with fail
      refine (AW.out _).mono ?_
      rintro e w4 ⟨rfl, hb4⟩
      go_wp2_with fail
      go_ret
      exact ⟨rfl, B3.out.trans (hb4.mono B3.out.size)⟩
open Go.ChangeShapes Go.WideShapes Go.ChangeAt in
open Go.ChangeMaps (open_string) in
theorem walkDists_walk {H : Type} {enc : TypeId × Value → H} (W : World) (base : Nat) (v0 v1 v2 : Value) (d0 d1 d2 : DataW H) (p0 p1 p2 : List MemPlace)
    (h0 : DataW.Trod enc Try.prog W 0 (fun _ => true) true 22 v0 d0 p0) (h1 : DataW.Trod enc Try.prog W 0 (fun _ => true) true 9 v1 d1 p1) (h2 : DataW.Trod enc Try.prog W 0 (fun _ => true) true 3 v2 d2 p2)
    (o0 : Value.okWide Try.prog W .any base 22 v0) (o1 : Value.okWide Try.prog W .any base 9 v1) (o2 : Value.okWide Try.prog W .any base 3 v2) :
    Calls Try.prog 4 #[v0, v1, v2] W fun e w' => e = .returned (.bool true) ∧ RowKit.Below W.heap.size W w' := by
  obtain ⟨a0, n0, c0, k0, rfl, x0, y0, z0, b0, s0⟩ := open_texts_arg o0 h0
  obtain ⟨t, rfl, rfl, rfl, ht⟩ := open_string Try.underlying9 o1 h1
  unfold maxLen at ht
  obtain ⟨x2, rfl, rfl, rfl, b2⟩ := open_int Try.underlying3 o2 h2
  exact walkDists_law a0 n0 c0 k0 t x2 W x0 z0 b0 s0 (by omega)
end Go.Proofs.Ytolggcdlpiedmaa
