/- WalkOwn: a word of the list is nearest to itself -/
import Derived.Test.YtolggcdlpiedmaaPkE
import Derived.Test.YtolggcdlpiedmaaPkH
import Derived.Test.YtolggcdlpiedmaaPkF
namespace Go.Proofs.Ytolggcdlpiedmaa
open Go.RowKit
set_option linter.unusedVariables false
set_option maxRecDepth 20000
theorem dist_own {a : Tx} (h : 0 ≤ lenS a) : distS a a = 0 := by
  unfold distS; rw [if_pos ⟨h, h⟩]; exact Ed.L_same _ _
theorem intsN_inj : ∀ {a b : List Nat}, intsN a = intsN b → a = b
  | [], [], _ => rfl
  | [], _ :: _, h => by simp [intsN] at h
  | _ :: _, [], h => by simp [intsN] at h
  | x :: a, y :: b, h => by
    simp only [intsN, List.map_cons, List.cons.injEq] at h
    obtain ⟨h1, h2⟩ := h
    rw [show x = y by omega, intsN_inj (a := a) (b := b) h2]
theorem dist_nought {a b : Tx} (ha : 0 ≤ lenS a) (hb : 0 ≤ lenS b) (h : distS a b = 0) : a = b := by
  unfold distS at h; rw [if_pos ⟨ha, hb⟩] at h
  have h1 := (Ed.L_zero_iff (intsN (runesS a)) (intsN (runesS b))).1 (by rw [intsN_len, intsN_len]; exact h)
  have h2 := intsN_inj h1
  have h3 := cmpS_runes a b ha hb
  rw [h2, ← cmpS_runes b b hb hb, cmpS_same] at h3
  exact cmpS_zero.1 h3
theorem HoldsK.behind {w : World} {b o n : Nat} {y : KV} {L : List KV} (h : HoldsK w (some ⟨b, o, none⟩) n (y :: L)) : HoldsK w (some ⟨b, o + 2, none⟩) (n - 1) L := by
  have hl := h.1
  simp only [List.length_cons] at hl
  refine ⟨by omega, fun h0 => ⟨b, o + 2, rfl, fun i hi => ?_⟩⟩
  obtain ⟨b', o', e, hc⟩ := h.2 (by omega)
  cases e
  have := hc (i + 1) (by omega)
  rw [show o + 2 + i * 2 = o + (i + 1) * 2 by omega]
  simpa using this
/-- of a word of the list: itself first -/
theorem own_first {ts : List Tx} {x : Tx} {k : Int} (hs : SortedS ts) (hw : ∀ t ∈ ts, wordP t) (hx : x ∈ ts) (hk : 0 ≤ k) : ∃ L', allK ts x k = (0, x) :: L' := by
  have hst := allK_strict hs x k
  have hwx := hw x hx
  have hm : ((0, x) : KV) ∈ allK ts x k := by
    rw [allK_mem]
    have h0 := dist_own (a := x) (by have := hwx.1; omega)
    exact ⟨hx, h0.symm, by show 0 ≤ distS x x; omega, by show distS x x ≤ k; omega⟩
  cases hL : allK ts x k with
  | nil => rw [hL] at hm; simp at hm
  | cons y l =>
    rw [hL] at hm hst
    rcases List.mem_cons.1 hm with rfl | hm
    · exact ⟨l, rfl⟩
    · have h1 : ordK y (0, x) < 0 := (List.pairwise_cons.1 hst).1 _ hm
      have hy : y ∈ allK ts x k := by rw [hL]; simp
      obtain ⟨hy1, hy2, hy3, hy4⟩ := allK_mem.1 hy
      have hy0 : y.1 = 0 := by
        have h2 : ¬ (0 : Int) < y.1 := by
          intro h2
          unfold ordK at h1
          rw [if_neg (by show ¬ y.1 < 0; omega), if_pos h2] at h1
          omega
        omega
      have : y.2 = x := dist_nought (by have := (hw y.2 hy1).1; omega) (by have := hwx.1; omega) (by omega)
      exact ⟨l, by rw [show y = (0, x) from Prod.ext hy0 this]⟩
set_option maxRecDepth 100000 in
set_option maxHeartbeats 6400000 in
theorem walkOwn_law (a : Option Addr) (n ca : Nat) (ts : List Tx) (xi xd : Int) (w : World) (hh : HoldsT w a n ts) (hnil : a = none → n = 0 ∧ ca = 0) (hc : n ≤ ca) (hn : n ≤ 9223372036854775807) (hsz : ∀ t ∈ ts, t.size ≤ 9223372036854775807) :
    Calls Try.prog 10 #[.slice a n ca, .int .i64 xi, .int .i64 xd] w fun e w' => e = .returned (.bool true) ∧ Below w.heap.size w w' := by
  have H0 := Lib.hid (show Lst w a n ca ts from ⟨hh, hnil, hc⟩)
  have AW := Lib.hid (fun w => awakeW_any w)
  obtain ⟨gr, hgr⟩ : ∃ c, greatB ts = c := ⟨_, rfl⟩
  have CG := Lib.hid (great_lit a n ca ts gr w hh hn hsz hgr)
  clear hh hnil
  go_enter Try.func10, Try.ntmps10
  go_wp2_with fail
  refine CG.out.mono ?_
  rintro e w2 ⟨rfl, hb2⟩
  have B2 := Lib.hid hb2
  clear hb2 CG
  cases gr with
  | true =>
    go_wp2_with fail
    refine (AW.out _).mono ?_
    rintro e w3 ⟨rfl, hb3⟩
    go_wp2_with fail
    go_ret
    exact ⟨rfl, B2.out.trans (hb3.mono B2.out.size)⟩
  | false =>
    obtain ⟨hl80, hs100⟩ := great_no_iff.1 hgr
    have HSS := Lib.hid hs100
    have hlen : ts.length = n := H0.out.1.len
    obtain ⟨zs, hz⟩ : ∃ z, canonS (wordsOf ts) = z := ⟨_, rfl⟩
    obtain ⟨m, hm⟩ : ∃ m, zs.length = m := ⟨_, rfl⟩
    have hmn : m ≤ n := by
      have h1 := canon_len (wordsOf ts)
      have h2 := wordsOf_len ts
      rw [hz, hm] at h1; omega
    have hZS : SortedS zs := hz ▸ canon_sorted _
    have hZW : ∀ t ∈ zs, wordP t ∧ t.size ≤ 100 := fun t ht => by
      rw [← hz] at ht
      have h1 := mem_canon.1 ht
      unfold wordsOf at h1
      have h2 := List.mem_filter.1 h1
      exact ⟨of_decide_eq_true h2.2, hs100 t h2.1⟩
    have CS := Lib.hid (sorted_lst a n ca ts zs m w2 (H0.out.below B2.out) (by omega) (fun t ht => by have := hs100 t ht; omega) hz hm)
    have HM := Lib.hid hm
    clear hgr hs100 hsz hz hm
    go_wp2_with fail
    refine CS.out.mono ?_
    rintro e w3 ⟨a3, c3, rfl, ho3, hb3⟩
    have B3 := Lib.hid (B2.out.trans (hb3.mono B2.out.size))
    have L3 := Lib.hid (Lst.own ho3)
    clear hb3 ho3 B2 CS
    by_cases hm0 : m = 0 ∨ 60 < m
    · have hm1 : m = 0 ∨ (1 ≤ m ∧ 60 < m) := by omega
      clear hm0
      rcases hm1 with rfl | ⟨hm1, hm2⟩
      all_goals
        go_wp2_with fail
        refine (AW.out _).mono ?_
        rintro e w4 ⟨rfl, hb4⟩
        go_wp2_with fail
        go_ret
        exact ⟨rfl, B3.out.trans (hb4.mono B3.out.size)⟩
    · have hm1 : 1 ≤ m := by omega
      have hm2 : m ≤ 60 := by omega
      have r1 : ((m : Int) == 0) = false := by simp; omega
      clear hm0
      obtain ⟨lo1, hi1⟩ := low_bd xi (m : Int) (by omega)
      have CL1 := Lib.hid (fun w => low_any xi (m : Int) (by omega) (by omega) w)
      obtain ⟨i, hi⟩ : ∃ A : Nat, lowV xi (m : Int) = (A : Int) := ⟨(lowV xi (m : Int)).toNat, by omega⟩
      rw [hi] at CL1 lo1 hi1
      obtain ⟨lo2, hi2⟩ := low_bd xd 5 (by omega)
      have CL2 := Lib.hid (fun w => low_any xd 5 (by omega) (by omega) w)
      obtain ⟨d, hd⟩ : ∃ A, lowV xd 5 = A := ⟨_, rfl⟩
      rw [hd] at CL2 lo2 hi2
      have hilt : i < m := by omega
      obtain ⟨b, o, rfl, hcl⟩ := L3.out.1.at (by omega)
      have x0 := hcl i hilt
      have hmem := getD_memT' zs i (by have := HM.out; omega)
      obtain ⟨x, hx⟩ : ∃ x, zs.getD i ByteArray.empty = x := ⟨_, rfl⟩
      rw [hx] at x0 hmem
      obtain ⟨hxw, hxs⟩ := hZW x hmem
      obtain ⟨L', hL'⟩ := own_first hZS (fun t ht => (hZW t ht).1) hmem lo2
      have HMA := Lib.hid (show sortK (matchK zs x d) = allK zs x d from by
        unfold matchK allK
        rw [if_pos ⟨⟨by have := hxw.1; omega, by have := hxw.2; omega⟩, lo2, by omega⟩])
      have hv : goodV zs = 0 := goodV_good (by have := HM.out; omega) (fun t ht => (hZW t ht).1) hZS
      have hst := allK_strict hZS x d
      have hLm : (allK zs x d).length ≤ m := by
        have h2 := matchK_len zs x d
        rw [← HMA.out, sortK_length]
        have := HM.out; omega
      obtain ⟨p, hp⟩ : ∃ p, L'.length = p := ⟨_, rfl⟩
      rw [hL'] at hst hLm
      simp only [List.length_cons, hp] at hLm
      have HF := Lib.hid (show restK true (0, ⟨#[]⟩) (matchK zs x d) = (0, x) :: L' from by unfold restK; rw [if_pos rfl, HMA.out, hL'])
      have HR := Lib.hid (show restK false (0, x) (matchK zs x d) = L' from by
        unfold restK; rw [if_neg (by simp), HMA.out, hL']
        have := filter_at hst 0 (by simp)
        simpa using this)
      have HP := Lib.hid hp
      obtain ⟨q, hq⟩ : ∃ q, p + 1 = q := ⟨_, rfl⟩
      have HQ := Lib.hid hq
      have hpq : p ≤ m := by omega
      obtain ⟨e1, he1⟩ : ∃ b, decide (q = 1) = b := ⟨_, rfl⟩
      have HE := Lib.hid he1
      rw [hq] at hLm
      have CB := Lib.hid (buildW_good (some ⟨b, o, none⟩) m c3 zs w3 L3.out.1 L3.out.2.2 (by omega) (fun t ht => (hZW t ht).2) hv)
      clear hcl hx hmem hxw hZW hZS hL' hv hst hp hd hi hq he1
      go_wp2_with fail
      refine (CL1.out _).mono ?_
      rintro e w4 ⟨rfl, rfl⟩
      clear CL1
      go_wp2_with fail
      refine (CL2.out _).mono ?_
      rintro e w4 ⟨rfl, rfl⟩
      clear x0 CL2
      go_wp2_with fail
      refine CB.out.mono ?_
      rintro e w4 ⟨g, rfl, hg, hb4⟩
      have G4 := Lib.hid hg
      have B4 := Lib.hid (B3.out.trans (hb4.mono B3.out.size))
      have C1 := Lib.hid (next_c g zs x d true (0, ⟨#[]⟩) 1 ((0, x) :: L') [(0, x)] 1 e1 w4 hg (by omega) HF.out (by simp only [List.length_cons]; unfold cntK; omega) rfl (by simp only [List.length_cons, HP.out, HQ.out]; rw [← HE.out]; exact decide_eq_decide.2 (by omega)))
      clear hg hb4 CB B3
      go_wp2_with fail
      refine C1.out.mono ?_
      rintro e w5 ⟨a5, rfl, hc5, hna5, hb5⟩
      have B5 := Lib.hid (B4.out.trans (hb5.mono B4.out.size))
      have G5 := Lib.hid (G4.out.below hb5)
      have K5 := Lib.hid hc5.holds
      have C2 := Lib.hid (next_c g zs x d true (0, ⟨#[]⟩) 60 ((0, x) :: L') ((0, x) :: L') q true w5 G5.out (by omega) HF.out (by simp only [List.length_cons, HP.out, HQ.out]; unfold cntK; omega) (List.take_of_length_le (by simp only [List.length_cons, HP.out, HQ.out]; omega)) (by simp only [List.length_cons, HP.out, HQ.out, decide_true]))
      clear hc5 hb5 C1 B4 G4
      go_wp2_with fail
      refine C2.out.mono ?_
      rintro e w6 ⟨a6, rfl, hc6, hna6, hb6⟩
      have B6 := Lib.hid (B5.out.trans (hb6.mono B5.out.size))
      have G6 := Lib.hid (G5.out.below hb6)
      have K6 := Lib.hid (K5.out.below hb6)
      have Q6 := Lib.hid hc6.holds
      have C3 := Lib.hid (next_c g zs x d false (0, x) 60 L' L' p true w6 G6.out (by omega) HR.out (by rw [HP.out]; unfold cntK; omega) (List.take_of_length_le (by rw [HP.out]; omega)) (by simp [HP.out]))
      clear hc6 hb6 C2 B5 G5 K5
      go_wp2_with fail
      refine C3.out.mono ?_
      rintro e w7 ⟨a7, rfl, hc7, hna7, hb7⟩
      have B7 := Lib.hid (B6.out.trans (hb7.mono B6.out.size))
      have K7 := Lib.hid (K6.out.below hb7)
      have Q7 := Lib.hid (Q6.out.below hb7)
      have R7 := Lib.hid hc7.holds
      clear hc7 hb7 C3 B6 G6 K6 Q6
      obtain ⟨b5, o5, rfl, hcc⟩ := K7.out.at (by omega)
      obtain ⟨y0, y1⟩ := hcc 0 (by omega)
      have hq1 : 1 ≤ q := by have := HQ.out; omega
      obtain ⟨b6, o6, rfl, -⟩ := Q7.out.at (by omega)
      simp only [Nat.zero_mul, Nat.add_zero] at y0 y1
      change w7.cell? ⟨b5, o5, none⟩ = some (.int .i64 0) at y0
      change w7.cell? ⟨b5, o5 + 1, none⟩ = some (.string x) at y1
      clear hcc hna5 hna6
      have hcs : (q = 1 ∧ e1 = true) ∨ (2 ≤ q ∧ e1 = false) := by
        by_cases h : q = 1
        · exact Or.inl ⟨h, by rw [← HE.out]; exact decide_eq_true h⟩
        · exact Or.inr ⟨by omega, by rw [← HE.out]; exact decide_eq_false h⟩
      rcases hcs with ⟨rfl, rfl⟩ | ⟨hq2, rfl⟩
      case' inl =>
        obtain rfl : p = 0 := by have := HQ.out; omega
        obtain rfl : L' = [] := List.eq_nil_of_length_eq_zero HP.out
      case' inr =>
        have r2 : ((q : Int) == 1) = false := by simp; omega
        obtain rfl : p = q - 1 := by have := HQ.out; omega
        have T7 := Lib.hid Q7.out.behind
      all_goals
        go_wp2_with fail
        first
        | refine (sameItems_yes a7 _ _ _ _ _ w7 R7.out T7.out (by omega)).mono ?_
        | refine (sameItems_yes a7 _ 0 _ _ [] w7 R7.out (HoldsK.nil _ _) (by omega)).mono ?_
        rintro e w8 ⟨rfl, hb8⟩
        have B8 := Lib.hid (B7.out.trans (hb8.mono B7.out.size))
        clear hb8 B7
        go_wp2_with fail
        refine (AW.out _).mono ?_
        rintro e w9 ⟨rfl, hb9⟩
        go_wp2_with fail
        go_ret
        exact ⟨rfl, B8.out.trans (hb9.mono B8.out.size)⟩
open Go.ChangeShapes Go.WideShapes Go.ChangeAt in
theorem walkOwn_walk {H : Type} {enc : TypeId × Value → H} (W : World) (base : Nat) (v0 v1 v2 : Value) (d0 d1 d2 : DataW H) (p0 p1 p2 : List MemPlace)
    (h0 : DataW.Trod enc Try.prog W 0 (fun _ => true) true 22 v0 d0 p0) (h1 : DataW.Trod enc Try.prog W 0 (fun _ => true) true 3 v1 d1 p1) (h2 : DataW.Trod enc Try.prog W 0 (fun _ => true) true 3 v2 d2 p2)
    (o0 : Value.okWide Try.prog W .any base 22 v0) (o1 : Value.okWide Try.prog W .any base 3 v1) (o2 : Value.okWide Try.prog W .any base 3 v2) :
    Calls Try.prog 10 #[v0, v1, v2] W fun e w' => e = .returned (.bool true) ∧ RowKit.Below W.heap.size W w' := by
  obtain ⟨a0, n0, c0, k0, rfl, x0, y0, z0, b0, s0⟩ := open_texts_arg o0 h0
  obtain ⟨x1, rfl, rfl, rfl, b1⟩ := open_int Try.underlying3 o1 h1
  obtain ⟨x2, rfl, rfl, rfl, b2⟩ := open_int Try.underlying3 o2 h2
  exact walkOwn_law a0 n0 c0 k0 x1 x2 W x0 y0 z0 b0 s0
end Go.Proofs.Ytolggcdlpiedmaa
