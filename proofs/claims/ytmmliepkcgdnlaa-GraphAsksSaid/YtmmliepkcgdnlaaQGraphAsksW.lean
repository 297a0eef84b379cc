/- graph: where an edge leads, whether a word is there, which are from a text on -/
import Derived.Test.YtmmliepkcgdnlaaPkH
namespace Go.Proofs.Ytmmliepkcgdnlaa
open Go.RowKit
set_option linter.unusedVariables false
set_option maxRecDepth 20000
theorem numG_any (v : Int) (w : World) : Calls Try.prog 16 #[.int .i64 v] w fun e w' => e = .returned (.int .i64 v) ∧ w = w' := by
  go_enter Try.func16, Try.ntmps16
  go_wp2_with fail
  go_ret
  exact ⟨rfl, rfl⟩
set_option maxHeartbeats 3200000 in
set_option maxRecDepth 100000 in
theorem graphAsks_any (a : Option Addr) (n cap : Nat) (ts : List Tx) (nn r : Int) (s : Tx) (most : Int) (w : World) (hh : HoldsT w a n ts) (hc : n ≤ cap) (hn : n ≤ 9223372036854775807) (hsz : ∀ t ∈ ts, t.size ≤ 9223372036854775807) (hs : s.size ≤ 9223372036854775807) :
    Calls Try.prog 4 #[.slice a n cap, .int .i64 nn, .int .i32 r, .string s, .int .i64 most] w fun e w' => e = .returned (.bool true) ∧ Below w.heap.size w w' := by
  have CG := Lib.hid (great_any a n cap ts w hh hn hsz)
  have HH := Lib.hid hh
  have HL := Lib.hid hh.len
  have AW := Lib.hid (fun w => awakeG_any w)
  by_cases q0 : greatB ts = true
  · rw [q0] at CG
    go_enter Try.func4, Try.ntmps4
    go_wp2_with fail
    refine CG.out.mono ?_
    rintro e w1 ⟨rfl, hb⟩
    have B1 := Lib.hid hb
    clear hb
    go_wp2_with fail
    refine (AW.out _).mono ?_
    rintro e w' ⟨rfl, hb⟩
    have B2 := Lib.hid (B1.out.trans (hb.mono B1.out.size))
    clear hb
    go_wp2_with fail
    go_ret
    exact ⟨rfl, B2.out⟩
  have q0' : greatB ts = false := by simpa using q0
  rw [q0'] at CG
  by_cases q1 : 100 < s.size
  · have d1 : decide (100 < s.size) = true := decide_eq_true q1
    go_enter Try.func4, Try.ntmps4
    go_wp2_with fail
    refine CG.out.mono ?_
    rintro e w1 ⟨rfl, hb⟩
    have B1 := Lib.hid hb
    clear hb
    go_wp2_with fail
    refine (AW.out _).mono ?_
    rintro e w' ⟨rfl, hb⟩
    have B2 := Lib.hid (B1.out.trans (hb.mono B1.out.size))
    clear hb
    go_wp2_with fail
    go_ret
    exact ⟨rfl, B2.out⟩
  have d1 : decide (100 < s.size) = false := decide_eq_false q1
  obtain ⟨l80, hsm⟩ := great_no_iff.1 q0'
  have hsm : ∀ t ∈ ts, t.size ≤ 100 := hsm
  have n80 : n ≤ 80 := by have := HL.out; omega
  by_cases q2 : goodV ts = 0
  · have OK := Lib.hid (grS_ok q2 hsm)
    have GE := Lib.hid (fun (x : GN) hx => (show x.edges.length ≤ 1000 from by have := OK.out.few x hx; omega))
    have LO := Lib.hid (fun t (ht : t ∈ ts) => (show 0 ≤ lenS t from (ok_good q2 hsm).lo t ht))
    have SO := Lib.hid (show SortedS ts from (ok_good q2 hsm).ord)
    have N60 := Lib.hid (show ts.length ≤ 60 from (goodV_zero q2).1)
    have CB := Lib.hid (fun (w1 : World) (hb : Below w.heap.size w w1) => build_c (w0 := w) a n cap ts _ w1 hb (HH.out.below hb) hc hn hsm q2 rfl)
    have CR := Lib.hid (fun (w1 : World) (hb : Below w.heap.size w w1) => rbuild_good (w0 := w) a n cap ts _ w1 hb (HH.out.below hb) hc hn hsm q2 rfl)
    have HAS := Lib.hid (has_in OK.out LO.out s)
    generalize grS ts = st at *
    obtain ⟨V, hV⟩ : ∃ V, decide (s ∈ ts) = V := ⟨_, rfl⟩
    obtain ⟨ak, hak⟩ : ∃ k, atN ts s = k := ⟨_, rfl⟩
    have ATH := Lib.hid (fun w4 (hb : Below w.heap.size w w4) => at_any a n cap ts s w4 (HH.out.below hb) (by omega) SO.out)
    rw [hV, hak] at ATH
    rw [hV] at HAS
    obtain ⟨⟨v1, v2⟩, hnx⟩ : ∃ v, nextG st nn r = v := ⟨_, rfl⟩
    have NX := Lib.hid hnx
    obtain ⟨fl, hfl⟩ : ∃ l, fromL ts s most = l := ⟨_, rfl⟩
    have FL := Lib.hid hfl
    have flb : fl.length ≤ 80 := by
      rw [← hfl]; unfold fromL
      have h1 := List.length_take_le most.toNat (ts.filter (fun t => !decide (cmpS t s < 0)))
      have h2 := List.length_filter_le (fun t => !decide (cmpS t s < 0)) ts
      rw [List.length_take]
      omega
    have hs2 : s.size ≤ 1048576 := by omega
    clear q0 q0' hsm hh hV q2 hsz hak hnx hfl
    have e1 : (v1 == v1) = true := by simp
    have e2 : (v2 == v2) = true := by simp
    have e3 : (V == V) = true := by simp
    go_enter Try.func4, Try.ntmps4
    go_wp2_with fail
    refine CG.out.mono ?_
    rintro e w1 ⟨rfl, hb⟩
    have B1 := Lib.hid hb
    clear hb CG
    go_wp2_with fail
    refine (CB.out w1 B1.out).mono ?_
    rintro e w2 ⟨g, S, rfl, C, -⟩
    have C2 := Lib.hid C
    clear C B1 CB
    go_wp2_with fail
    refine (CR.out w2 C2.out.b).mono ?_
    rintro e w3 ⟨h, T, F, rfl, C, hb⟩
    have C3 := Lib.hid (C2.out.more hb)
    have D3 := Lib.hid C
    clear C hb CR C2
    go_wp2_with fail
    refine (gNext_c nn r w3 C3.out GE.out v1 v2 NX.out).mono ?_
    rintro e w4 ⟨rfl, hb⟩
    have C4 := Lib.hid (C3.out.more hb)
    have D4 := Lib.hid (D3.out.more hb)
    clear hb C3 D3
    go_wp2_with fail
    refine (rNext_any h st T F nn r w4 D4.out.Q GE.out v1 v2 NX.out).mono ?_
    rintro e w5 ⟨rfl, hb⟩
    have C5 := Lib.hid (C4.out.more hb)
    have D5 := Lib.hid (D4.out.more hb)
    clear hb C4 D4
    go_wp2_with fail
    refine (ATH.out w5 C5.out.b).mono ?_
    rintro e w6 ⟨rfl, rfl⟩
    go_wp2_with fail
    refine (gFrom_any g st ts OK.out S s most w5 C5.out.G).mono ?_
    rintro e w6 ⟨fa, fc, rfl, ho, hb⟩
    have H6 := Lib.hid (HoldsT.own ho)
    have C6 := Lib.hid (C5.out.more hb)
    have D6 := Lib.hid (D5.out.more hb)
    clear hb ho C5 D5
    rw [FL.out] at H6
    rw [FL.out]
    go_wp2_with fail
    refine (gWord_c s V w6 C6.out GE.out HAS.out).mono ?_
    rintro e w7 ⟨rfl, hb⟩
    have H7 := Lib.hid (H6.out.below hb)
    have C7 := Lib.hid (C6.out.more hb)
    have D7 := Lib.hid (D6.out.more hb)
    clear hb C6 D6 H6
    go_wp2_with fail
    refine (rFrom_any h st ts OK.out T F s most w7 D7.out.Q hs2).mono ?_
    rintro e w8 ⟨ra, rc, rfl, ho, hb⟩
    have H8 := Lib.hid (H7.out.below hb)
    have R8 := Lib.hid (HoldsT.own ho)
    have C8 := Lib.hid (C7.out.more hb)
    clear hb ho C7 D7 H7
    rw [FL.out] at R8
    rw [FL.out]
    go_wp2_with fail
    refine (sameTexts_yes fa ra fl.length fc rc fl w8 H8.out R8.out (by omega)).mono ?_
    rintro e w9 ⟨rfl, hb⟩
    have C9 := Lib.hid (C8.out.more hb)
    clear hb C8 H8 R8
    go_wp2_with fail
    refine (gWords_any g st ts OK.out S w9 C9.out.G).mono ?_
    rintro e w10 ⟨wa, wc, rfl, ho, hb⟩
    have H10 := Lib.hid (HoldsT.own ho)
    have C10 := Lib.hid (C9.out.more hb)
    clear hb ho C9
    rw [words_all N60.out, HL.out] at H10
    rw [words_all N60.out, HL.out]
    go_wp2_with fail
    refine (sameTexts_yes wa a n wc cap ts w10 H10.out (HH.out.below C10.out.b) (by omega)).mono ?_
    rintro e w11 ⟨rfl, hb⟩
    have C11 := Lib.hid (C10.out.more hb)
    clear hb C10
    go_wp2_with fail
    refine (AW.out _).mono ?_
    rintro e w' ⟨rfl, hb⟩
    have C12 := Lib.hid (C11.out.more hb)
    clear hb
    go_wp2_with fail
    go_ret
    exact ⟨rfl, C12.out.b⟩
  · obtain ⟨v, hv⟩ : ∃ v, goodV ts = v := ⟨_, rfl⟩
    have hv0 : v ≠ 0 := by rw [← hv]; exact q2
    have CB := Lib.hid (fun (w1 : World) (hb : Below w.heap.size w w1) => build_bad a n cap ts v w1 (HH.out.below hb) hn hsz hv hv0)
    have CR := Lib.hid (fun (w1 : World) (hb : Below w.heap.size w w1) => rbuild_bad a n cap ts v w1 (HH.out.below hb) hn (fun t ht => by have := hsm t ht; omega) hv hv0)
    have hb1 : (v != 0) = true := by simpa using hv0
    have e1 : (v == v) = true := by simp
    clear hv q2
    go_enter Try.func4, Try.ntmps4
    go_wp2_with fail
    refine CG.out.mono ?_
    rintro e w1 ⟨rfl, hb⟩
    have B1 := Lib.hid hb
    clear hb CG
    go_wp2_with fail
    refine (CB.out w1 B1.out).mono ?_
    rintro e w2 ⟨rfl, hb⟩
    have B2 := Lib.hid (B1.out.trans (hb.mono B1.out.size))
    clear hb B1
    go_wp2_with fail
    refine (CR.out w2 B2.out).mono ?_
    rintro e w3 ⟨rfl, hb⟩
    have B3 := Lib.hid (B2.out.trans (hb.mono B2.out.size))
    clear hb B2
    go_wp2_with fail
    refine (numG_any v _).mono ?_
    rintro e w4 ⟨rfl, rfl⟩
    go_wp2_with fail
    refine (AW.out _).mono ?_
    rintro e w' ⟨rfl, hb⟩
    have B4 := Lib.hid (B3.out.trans (hb.mono B3.out.size))
    clear hb
    go_wp2_with fail
    go_ret
    exact ⟨rfl, B4.out⟩
open Go.ChangeShapes Go.WideShapes Go.ChangeAt in
theorem graphAsks_walk {H : Type} {enc : TypeId × Value → H} (W : World) (base : Nat) (v0 v1 v2 v3 v4 : Value) (d0 d1 d2 d3 d4 : DataW H) (p0 p1 p2 p3 p4 : List MemPlace)
    (h0 : DataW.Trod enc Try.prog W 0 (fun _ => true) true 22 v0 d0 p0) (h1 : DataW.Trod enc Try.prog W 0 (fun _ => true) true 3 v1 d1 p1) (h2 : DataW.Trod enc Try.prog W 0 (fun _ => true) true 21 v2 d2 p2) (h3 : DataW.Trod enc Try.prog W 0 (fun _ => true) true 9 v3 d3 p3) (h4 : DataW.Trod enc Try.prog W 0 (fun _ => true) true 3 v4 d4 p4)
    (o0 : Value.okWide Try.prog W .any base 22 v0) (o1 : Value.okWide Try.prog W .any base 3 v1) (o2 : Value.okWide Try.prog W .any base 21 v2) (o3 : Value.okWide Try.prog W .any base 9 v3) (o4 : Value.okWide Try.prog W .any base 3 v4) :
    Calls Try.prog 4 #[v0, v1, v2, v3, v4] W fun e w' => e = .returned (.bool true) ∧ RowKit.Below W.heap.size W w' := by
  obtain ⟨a0, n0, c0, t0, rfl, x0, y0, z0, b0, s0⟩ := open_texts_arg o0 h0
  obtain ⟨x1, rfl, rfl, rfl, b1⟩ := open_int Try.underlying3 o1 h1
  obtain ⟨x2, rfl, rfl, rfl, b2⟩ := open_int Try.underlying21 o2 h2
  obtain ⟨s3, rfl, rfl, rfl, b3⟩ := Go.ChangeMaps.open_string Try.underlying9 o3 h3
  obtain ⟨x4, rfl, rfl, rfl, b4⟩ := open_int Try.underlying3 o4 h4
  exact graphAsks_any a0 n0 c0 t0 x1 x2 s3 x4 W x0 z0 b0 s0 (by unfold maxLen at b3; omega)
end Go.Proofs.Ytmmliepkcgdnlaa
