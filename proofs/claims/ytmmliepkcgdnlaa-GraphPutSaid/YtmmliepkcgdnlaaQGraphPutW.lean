/- graph: a beginning more is a node more for each of its runes -/
import Derived.Test.YtmmliepkcgdnlaaPkF
import Derived.Test.YtmmliepkcgdnlaaPkG
namespace Go.Proofs.Ytmmliepkcgdnlaa
open Go.RowKit
set_option linter.unusedVariables false
set_option maxRecDepth 20000
theorem size_fourN : ∀ (n : Nat) (t : Tx), t.size ≤ n → 0 ≤ lenS t → (t.size : Int) ≤ 4 * lenS t
  | 0, t, h, h0 => by omega
  | n + 1, t, h, h0 => by
    by_cases hp : 0 < t.size
    · have h1 := good_first h0 hp
      have h2 := rst_size h0 hp
      have h3 := rst_len h0 hp
      have h4 : (Utf8.decode t 0).2 ≤ 4 := by
        have h5 := h1.1
        rw [decode_bytes] at h5 ⊢
        exact (decodeN_bytes _ _ _ _ _ (byteS_lt t 0) h5).2.1
      have h6 := size_fourN n (rstS t) (by omega) h3.1
      omega
    · omega
theorem size_four (t : Tx) (h : 0 ≤ lenS t) : (t.size : Int) ≤ 4 * lenS t := size_fourN t.size t (Nat.le_refl _) h
theorem mem_wordsP {ts : List Tx} {t : Tx} : t ∈ canonS (wordsOf ts) ↔ t ∈ ts ∧ wordP t := by rw [mem_canon]; simp [wordsOf]
theorem lenl_anyP (t : Tx) (l : Int) (w : World) (ht : t.size ≤ 9223372036854775807) (hl : lenS t = l) :
    Calls Try.prog 38 #[.string t] w fun e w' => e = .returned (.int .i64 l) ∧ Below w.heap.size w w' := by subst hl; exact len_any t w ht
theorem take_txP (l : List Tx) (i : Nat) (h : i < l.length) : l.take (i + 1) = l.take i ++ [l.getD i ByteArray.empty] := by
  rw [List.take_add_one, List.getElem?_eq_getElem h, List.getD_eq_getElem?_getD, List.getElem?_eq_getElem h]; rfl
set_option maxHeartbeats 3200000 in
theorem graphPut_any (a : Option Addr) (n cap : Nat) (ts : List Tx) (s : Tx) (w : World) (hh : HoldsT w a n ts) (hc : n ≤ cap) (hn : n ≤ 9223372036854775807) (hsz : ∀ t ∈ ts, t.size ≤ 9223372036854775807) (hs : s.size ≤ 9223372036854775807) :
    Calls Try.prog 10 #[.slice a n cap, .string s] w fun e w' => e = .returned (.bool true) ∧ Below w.heap.size w w' := by
  have CG := Lib.hid (great_any a n cap ts w hh hn hsz)
  have HH := Lib.hid hh
  have HL := Lib.hid hh.len
  have AW := Lib.hid (fun w => awakeG_any w)
  by_cases q0 : greatB ts = true
  · rw [q0] at CG
    go_enter Try.func10, Try.ntmps10
    go_wp2_with fail
    refine CG.out.mono ?_
    rintro e w1 ⟨rfl, hb⟩
    have B1 := Lib.hid hb
    clear hb
    go_wp2_with fail
    refine (AW.out _).mono ?_
    rintro e w' ⟨rfl, hb⟩
    have B2 := Lib.hid (B1.out.trans (hb.mono B1.out.size))
    clear hb
    go_wp2_with fail
    go_ret
    exact ⟨rfl, B2.out⟩
  have q0' : greatB ts = false := by simpa using q0
  rw [q0'] at CG
  by_cases q1 : 40 < s.size
  · have d1 : decide (40 < s.size) = true := decide_eq_true q1
    go_enter Try.func10, Try.ntmps10
    go_wp2_with fail
    refine CG.out.mono ?_
    rintro e w1 ⟨rfl, hb⟩
    have B1 := Lib.hid hb
    clear hb
    go_wp2_with fail
    refine (AW.out _).mono ?_
    rintro e w' ⟨rfl, hb⟩
    have B2 := Lib.hid (B1.out.trans (hb.mono B1.out.size))
    clear hb
    go_wp2_with fail
    go_ret
    exact ⟨rfl, B2.out⟩
  have d1 : decide (40 < s.size) = false := decide_eq_false q1
  obtain ⟨l80, hsm⟩ := great_no_iff.1 q0'
  have hsm : ∀ t ∈ ts, t.size ≤ 100 := hsm
  have CS := Lib.hid (fun (w1 : World) (hb : Below w.heap.size w w1) => sorted_any a n cap ts w1 (HH.out.below hb) hc (by have := HL.out; omega) hsz)
  obtain ⟨ins, hins⟩ : ∃ l, canonS (wordsOf ts) = l := ⟨_, rfl⟩
  have IW := Lib.hid (show ∀ t ∈ ins, wordP t ∧ t.size ≤ 100 from fun t ht => by
    rw [← hins] at ht
    have := mem_wordsP.1 ht
    exact ⟨this.2, hsm t this.1⟩)
  have IS := Lib.hid (show SortedS ins from by rw [← hins]; exact canon_sorted _)
  rw [hins] at CS
  obtain ⟨l, hl⟩ : ∃ l, ins.length = l := ⟨_, rfl⟩
  obtain ⟨ls, hls⟩ : ∃ ls, lenS s = ls := ⟨_, rfl⟩
  have CL := Lib.hid (fun (w1 : World) => lenl_anyP s ls w1 hs hls)
  have HI := Lib.hid hl
  have HS := Lib.hid hls
  unfold RetO at CS
  rw [hl] at CS
  clear q0 q0' hsm hh hsz hins hl hls
  by_cases r0 : l = 0
  · have d2 : ((l : Int) == 0) = true := by rw [r0]; rfl
    clear r0
    go_enter Try.func10, Try.ntmps10
    go_wp2_with fail
    refine CG.out.mono ?_
    rintro e w1 ⟨rfl, hb⟩
    have B1 := Lib.hid hb
    clear hb CG
    go_wp2_with fail
    refine (CS.out w1 B1.out).mono ?_
    rintro e w2 ⟨ia, ic, rfl, ho, hb⟩
    have B2 := Lib.hid (B1.out.trans (hb.mono B1.out.size))
    clear hb ho CS
    go_wp2_with fail
    refine (AW.out _).mono ?_
    rintro e w' ⟨rfl, hb⟩
    have B3 := Lib.hid (B2.out.trans (hb.mono B2.out.size))
    clear hb
    go_wp2_with fail
    go_ret
    exact ⟨rfl, B3.out⟩
  have d2 : ((l : Int) == 0) = false := by rw [beq_eq_false_iff_ne]; omega
  by_cases r1 : 40 < l
  · have d3 : decide ((40 : Int) < (l : Int)) = true := decide_eq_true (by omega)
    go_enter Try.func10, Try.ntmps10
    go_wp2_with fail
    refine CG.out.mono ?_
    rintro e w1 ⟨rfl, hb⟩
    have B1 := Lib.hid hb
    clear hb CG
    go_wp2_with fail
    refine (CS.out w1 B1.out).mono ?_
    rintro e w2 ⟨ia, ic, rfl, ho, hb⟩
    have B2 := Lib.hid (B1.out.trans (hb.mono B1.out.size))
    clear hb ho CS
    go_wp2_with fail
    refine (AW.out _).mono ?_
    rintro e w' ⟨rfl, hb⟩
    have B3 := Lib.hid (B2.out.trans (hb.mono B2.out.size))
    clear hb
    go_wp2_with fail
    go_ret
    exact ⟨rfl, B3.out⟩
  have d3 : decide ((40 : Int) < (l : Int)) = false := decide_eq_false (by omega)
  by_cases r2 : ls < 0
  · have d4 : decide (ls < (0 : Int)) = true := decide_eq_true r2
    go_enter Try.func10, Try.ntmps10
    go_wp2_with fail
    refine CG.out.mono ?_
    rintro e w1 ⟨rfl, hb⟩
    have B1 := Lib.hid hb
    clear hb CG
    go_wp2_with fail
    refine (CS.out w1 B1.out).mono ?_
    rintro e w2 ⟨ia, ic, rfl, ho, hb⟩
    have B2 := Lib.hid (B1.out.trans (hb.mono B1.out.size))
    clear hb ho CS
    go_wp2_with fail
    refine (CL.out _).mono ?_
    rintro e w3 ⟨rfl, hb⟩
    have B3 := Lib.hid (B2.out.trans (hb.mono B2.out.size))
    clear hb
    go_wp2_with fail
    refine (AW.out _).mono ?_
    rintro e w' ⟨rfl, hb⟩
    have B4 := Lib.hid (B3.out.trans (hb.mono B3.out.size))
    clear hb
    go_wp2_with fail
    go_ret
    exact ⟨rfl, B4.out⟩
  have d4 : decide (ls < (0 : Int)) = false := decide_eq_false r2
  have ls0 : 0 ≤ ls := by omega
  have ls40 : ls ≤ 40 := by have := (lenS_bd s).2; rw [HS.out] at this; omega
  have s40 : s.size ≤ 40 := by omega
  have l40 : l ≤ 40 := by omega
  have l1 : 0 < l := by omega
  clear r2 r1 r0
  obtain ⟨i0, hi, hz0, hz1, hz2⟩ := info_parts str_info
  have GI := Lib.hid (show goodV ins = 0 from goodV_good (by rw [HI.out]; omega) (fun t ht => (IW.out t ht).1) IS.out)
  go_enter Try.func10, Try.ntmps10
  go_wp2_with fail
  refine CG.out.mono ?_
  rintro e w1 ⟨rfl, hb⟩
  have B1 := Lib.hid hb
  clear hb CG
  go_wp2_with fail
  refine (CS.out w1 B1.out).mono ?_
  rintro e w2 ⟨ia, ic, rfl, ho, hb⟩
  have hic : l ≤ ic := by
    rcases ho.2 with ⟨e, h⟩ | ⟨g, c, cur, e, h1, h2, h3, h4, h5, h6⟩
    · omega
    · simp only [Value.slice.injEq] at e
      obtain ⟨-, -, rfl⟩ := e
      exact h3
  have B2 := Lib.hid (B1.out.trans (hb.mono B1.out.size))
  have H2 := Lib.hid (HoldsT.own ho)
  clear hb ho CS
  go_wp2_with fail
  refine (CL.out _).mono ?_
  rintro e w3 ⟨rfl, hb⟩
  have B3 := Lib.hid (B2.out.trans (hb.mono B2.out.size))
  have H3 := Lib.hid (H2.out.below hb)
  clear hb
  go_wp2_with fail
  go_loopw [6, 7] (fun ov iv wr => ∃ (j : Nat) (oa : Option Addr) (oc on : Nat) (out : List Tx), j ≤ l ∧ on = out.length ∧ ov = .slice oa on oc ∧ iv = .int .i64 j ∧ Hid (out = preS s (ins.take j)) ∧ Hid (∀ t ∈ ins.take j, lenS t + ls ≤ 12) ∧ Hid (FS w3.heap.size w3 (fun _ => False) oa oc out wr)) (fun _ iv _ => l - (intOf iv).toNat)
  case atStart => exact ⟨0, none, 0, 0, [], by omega, rfl, rfl, rfl, Lib.hid (by simp [preS]), Lib.hid (by simp), Lib.hid (FS.start w3)⟩
  case round =>
    obtain ⟨j, oa, oc, on, out, hj, hon, rfl, rfl, hO, hW, hF⟩ := hrel
    have HJ := Lib.hid (show on = j from by rw [hon, hO.out, preS, List.length_map, List.length_take, HI.out]; omega)
    by_cases hlt : j < l
    · have HW := Lib.hid (H3.out.below hF.out.b)
      obtain ⟨b, o, rfl, hcc⟩ := HW.out.at (by omega)
      have xc := hcc j hlt
      obtain ⟨t, ht⟩ : ∃ t, ins.getD j ByteArray.empty = t := ⟨_, rfl⟩
      have htm : t ∈ ins := by
        rw [← ht, List.getD_eq_getElem?_getD, List.getElem?_eq_getElem (by rw [HI.out]; exact hlt)]; simp
      rw [ht] at xc
      have XC := Lib.hid (fun w5 (hb : Below wr.heap.size wr w5) => (hb.cell (p := ⟨b, o + j, none⟩) (lt_of_cell xc)).trans xc)
      obtain ⟨lt, hlt2⟩ : ∃ x, lenS t = x := ⟨_, rfl⟩
      have ht100 := (IW.out t htm).2
      have ltb : lt ≤ 12 ∧ 1 ≤ lt := by have := (IW.out t htm).1; unfold wordP at this; omega
      have CT := Lib.hid (lenl_anyP t lt wr (by omega) hlt2)
      have j1 : (0 : Int) ≤ (j : Int) := by omega
      have j2 : (j : Int) < (l : Int) := by omega
      have TK := Lib.hid (show ins.take (j + 1) = ins.take j ++ [t] from by rw [take_txP ins j (by rw [HI.out]; exact hlt), ht])
      have HLT := Lib.hid hlt2
      clear hcc ht hlt2
      by_cases r3 : 12 < lt + ls
      · have d5 : decide ((12 : Int) < lt + ls) = true := decide_eq_true r3
        go_wp2_with fail
        refine CT.out.mono ?_
        rintro e w4 ⟨rfl, hb⟩
        have B4 := Lib.hid (hF.out.b.trans (hb.mono hF.out.bl))
        clear hb
        go_wp2_with fail
        refine (CL.out _).mono ?_
        rintro e w5 ⟨rfl, hb⟩
        have B5 := Lib.hid (B4.out.trans (hb.mono B4.out.size))
        clear hb
        go_wp2_with fail
        refine (AW.out _).mono ?_
        rintro e w6 ⟨rfl, hb⟩
        have B6 := Lib.hid (B3.out.trans ((B5.out.trans (hb.mono B5.out.size)).mono B3.out.size))
        clear hb
        go_wp2_with fail
        go_ret
        exact ⟨rfl, B6.out⟩
      · have d5 : decide ((12 : Int) < lt + ls) = false := decide_eq_false r3
        have r4 : lt + ls ≤ 12 := by omega
        clear r3
        go_wp2_with fail
        refine CT.out.mono ?_
        rintro e w4 ⟨rfl, hb⟩
        have F4 := Lib.hid (hF.out.more hb)
        have B4 := Lib.hid hb
        clear hb CT
        go_wp2_with fail
        refine (CL.out _).mono ?_
        rintro e w5 ⟨rfl, hb⟩
        have F5 := Lib.hid (F4.out.more hb)
        have x5 := XC.out w5 (B4.out.trans (hb.mono B4.out.size))
        have hbl := F5.out.bl
        have hos : out.length ≤ 40 := by rw [← hon, HJ.out]; omega
        clear hb F4 B4 xc XC
        subst hon
        go_wp2_with (at_builtin; refine wpList_append_lies _ rfl (.tmp 52) (.tmp 59) 22 rfl w3.heap.size 9 i0 _ 1 16 Try.underlying22 hi hz0 hz1 hz2 rfl (by omega) (.slice oa out.length oc) out.length (strsV out) (by rfl) (F5.out.o.alloc _) ⟨w5.heap.size, 0, none⟩ 1 1 [.string (s ++ t)] (by rfl) (by rfl) (World.news_of_block (cs := #[.string (s ++ t)]) (t := 9) (fr := (0, 0)) (heap_alloc_new w5 _)) (by simp [Value.oneCell']) (by omega) (by unfold maxLen; omega) (by omega) (by simp; omega) (w5.heap.size + 1) (by simp) ?_; intro g3 c3' w8 hown3 hgrow3 hat3 hlt3; have GR := Lib.hid (F5.out.grow hown3 hgrow3 (hat3.imp id (fun e => by simp; exact e))); clear hown3 hgrow3 hat3 hlt3)
        go_roundw
        case rel => exact ⟨j + 1, some ⟨g3, 0, none⟩, c3', out.length + 1, out ++ [s ++ t], by omega, by simp, rfl, by go_num, Lib.hid (by rw [TK.out, hO.out, preS, preS, List.map_append]; rfl), Lib.hid (fun u hu => by
          rw [TK.out] at hu
          rcases List.mem_append.1 hu with hu | hu
          · exact hW.out u hu
          · rw [List.mem_singleton] at hu; rw [hu, HLT.out]; exact r4), Lib.hid GR.out.1⟩
        case measure => simp [intOf] <;> omega
    · obtain rfl : j = l := by omega
      have TA : ins.take j = ins := List.take_of_length_le (by rw [HI.out]; omega)
      rw [TA] at hO hW
      have HI3 := Lib.hid (H3.out.below hF.out.b)
      have BX := Lib.hid (B3.out.trans (hF.out.b.mono B3.out.size))
      have CB := Lib.hid (build_c (w0 := w) ia j ic ins _ wr BX.out HI3.out hic (by omega) (fun t ht => (IW.out t ht).2) GI.out rfl)
      have GP := Lib.hid (good_pre (s := s) GI.out (by rw [HS.out]; exact ls0) (fun t ht => by rw [HS.out]; exact hW.out t ht))
      have SP := Lib.hid (show ∀ t ∈ preS s ins, t.size ≤ 100 from fun t ht => by
        obtain ⟨u, hu, rfl⟩ := List.mem_map.1 ht
        have h1 := size_four u (by have := (IW.out u hu).1; unfold wordP at this; omega)
        have h2 := (IW.out u hu).1.2
        rw [ByteArray.size_append]
        omega)
      have PUT := graph_put (ts := ins) (s := s) (fun e => by have := HI.out; rw [e] at this; simp at this; omega) GI.out (fun t ht => (IW.out t ht).2) (by rw [HS.out]; exact ls0) GP.out SP.out
      have OA := HoldsT.own hF.out.o
      rw [hO.out] at OA
      have hoc : out.length ≤ oc := by
        rcases hF.out.o.2 with ⟨e, h⟩ | ⟨g, c, cur, e, h1, h2, h3, h4, h5, h6⟩
        · omega
        · simp only [Value.slice.injEq] at e
          obtain ⟨-, -, rfl⟩ := e
          exact h3
      have HOA := Lib.hid OA
      have CB2 := Lib.hid (fun w4 (hb : Below w.heap.size w w4) (hb4 : Below wr.heap.size wr w4) => build_c (w0 := w) oa (preS s ins).length oc (preS s ins) _ w4 hb (HOA.out.below hb4) (by rw [← hO.out]; exact hoc) (by rw [← hO.out, ← hon, HJ.out]; omega) SP.out GP.out rfl)
      rw [show (preS s ins).length = out.length from by rw [← hO.out]] at CB2
      have LB1 := grS_len GI.out (fun t ht => (IW.out t ht).2)
      generalize grS (preS s ins) = s2 at *
      generalize grS ins = s1 at *
      obtain ⟨x1, hx1⟩ : ∃ x, s1.length = x := ⟨_, rfl⟩
      rw [HS.out, hx1] at PUT
      rw [hx1] at LB1
      have x1a : (0 : Int) ≤ (x1 : Int) := by omega
      have x1b : (x1 : Int) ≤ 2000 := by omega
      have X1 := Lib.hid hx1
      have X2 := Lib.hid PUT
      clear hx1 PUT OA hoc HOA TA hO hW HI3
      go_wp2_with fail
      refine CB.out.mono ?_
      rintro e w4 ⟨g, S, rfl, C, hb⟩
      have C4 := Lib.hid C
      have CC := CB2.out w4 C.b hb
      clear C CB CB2 hb
      go_wp2_with fail
      refine CC.mono ?_
      rintro e w5 ⟨g2, S2, rfl, C, hb⟩
      have C5 := Lib.hid C
      have D5 := Lib.hid (C4.out.more hb)
      have N5 := Lib.hid (gNodes_c ((x1 : Int) + ls) w5 C X2.out)
      have M5 := Lib.hid (gNodes_c (x1 : Int) w5 D5.out (by rw [X1.out]))
      clear C CC hb
      go_wp2_with fail
      refine N5.out.mono ?_
      rintro e w6 ⟨rfl, rfl⟩
      go_wp2_with fail
      refine M5.out.mono ?_
      rintro e w6 ⟨rfl, rfl⟩
      go_wp2_with fail
      refine (CL.out _).mono ?_
      rintro e w6 ⟨rfl, hb⟩
      have B6 := Lib.hid (C5.out.b.trans (hb.mono C5.out.b.size))
      clear hb
      go_wp2_with fail
      refine (AW.out _).mono ?_
      rintro e w7 ⟨rfl, hb⟩
      have B7 := Lib.hid (B6.out.trans (hb.mono B6.out.size))
      clear hb
      go_wp2_with fail
      go_ret
      exact ⟨rfl, B7.out⟩
open Go.ChangeShapes Go.WideShapes Go.ChangeAt in
theorem graphPut_walk {H : Type} {enc : TypeId × Value → H} (W : World) (base : Nat) (v0 v1 : Value) (d0 d1 : DataW H) (p0 p1 : List MemPlace)
    (h0 : DataW.Trod enc Try.prog W 0 (fun _ => true) true 22 v0 d0 p0) (h1 : DataW.Trod enc Try.prog W 0 (fun _ => true) true 9 v1 d1 p1)
    (o0 : Value.okWide Try.prog W .any base 22 v0) (o1 : Value.okWide Try.prog W .any base 9 v1) :
    Calls Try.prog 10 #[v0, v1] W fun e w' => e = .returned (.bool true) ∧ RowKit.Below W.heap.size W w' := by
  obtain ⟨a0, n0, c0, t0, rfl, x0, y0, z0, b0, s0⟩ := open_texts_arg o0 h0
  obtain ⟨s1, rfl, rfl, rfl, b1⟩ := Go.ChangeMaps.open_string Try.underlying9 o1 h1
  exact graphPut_any a0 n0 c0 t0 s1 W x0 z0 b0 s0 (by unfold maxLen at b1; omega)
end Go.Proofs.Ytmmliepkcgdnlaa
