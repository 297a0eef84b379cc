/- pack: how long an image is -/
import Derived.Test.YtlcmndbnknifhaaPkD
import Derived.Test.YtlcmndbnknifhaaPkE
namespace Go.Proofs.Ytlcmndbnknifhaa
open Go.RowKit
set_option linter.unusedVariables false
set_option maxRecDepth 20000
/-- all edges together -/
def edgN : List GN → Nat
  | [] => 0
  | x :: l => x.edges.length + edgN l
theorem edgN_app : ∀ a b : List GN, edgN (a ++ b) = edgN a + edgN b
  | [], b => by simp [edgN]
  | x :: a, b => by simp [edgN, edgN_app a b]; omega
theorem edgN_take (st : List GN) (j : Nat) (h : j < st.length) : edgN (st.take (j + 1)) = edgN (st.take j) + (st.getD j gn0).edges.length := by
  rw [List.take_add_one, List.getElem?_eq_getElem h, edgN_app, List.getD_eq_getElem?_getD, List.getElem?_eq_getElem h]
  simp [edgN]
theorem nds_size : ∀ st : List GN, (st.flatMap ndB).length = 3 * st.length + 6 * edgN st
  | [] => rfl
  | x :: l => by
    rw [List.flatMap_cons, List.length_append, ndB_len, nds_size l, List.length_cons]
    simp only [edgN]; omega
theorem imgB_size (st : List GN) : (imgB st).length = 10 + 3 * st.length + 6 * edgN st := by
  unfold imgB
  rw [sealB_len]
  unfold bodyB
  rw [List.length_append, List.length_append, Cod.bytesOf_length, nds_size]
  simp only [List.length_cons, List.length_nil]; omega
theorem grp_len {R : List (List Tx)} : ∀ (n : Nat) (l : List Tx) (es : List EdP), EdOk R l es → (grpS n l).length ≤ es.length
  | 0, l, es, _ => by simp [grpS]
  | n + 1, l, [], h0 => by
    have h1 : l = [] := h0
    unfold grpS; rw [if_pos h1]; simp
  | n + 1, l, e :: es, h0 => by
    obtain ⟨h1, h2, -, h5⟩ := h0
    unfold grpS; rw [if_neg h1]
    have := grp_len n _ es h5
    simp only [List.length_cons]; omega
theorem der_last {s x : List Tx} (h : Der s x) : x = s ∨ ∃ y, Der s y ∧ x ∈ grpS (bodS y).length (bodS y) := by
  induction h with
  | refl => exact Or.inl rfl
  | step hy hd ih =>
    rcases ih with rfl | ⟨z, h1, h2⟩
    · exact Or.inr ⟨_, Der.refl _, hy⟩
    · exact Or.inr ⟨z, Der.step hy h1, h2⟩
/-- what all edges lead to -/
def tgtS : List GN → List (List Tx)
  | [] => []
  | g :: l => grpS (bodS g.rests).length (bodS g.rests) ++ tgtS l
theorem tgt_mem : ∀ (st : List GN) (g : GN) (x : List Tx), g ∈ st → x ∈ grpS (bodS g.rests).length (bodS g.rests) → x ∈ tgtS st
  | [], g, x, h, _ => by cases h
  | y :: l, g, x, h, hx => by
    unfold tgtS
    rcases List.mem_cons.1 h with rfl | h
    · exact List.mem_append.2 (Or.inl hx)
    · exact List.mem_append.2 (Or.inr (tgt_mem l g x h hx))
theorem tgt_len {R : List (List Tx)} : ∀ (st : List GN), (∀ g ∈ st, NOk R g) → (tgtS st).length ≤ edgN st
  | [], _ => Nat.le_refl _
  | g :: l, h => by
    have h1 := grp_len (bodS g.rests).length (bodS g.rests) g.edges (h g (by simp)).ed
    have h2 := tgt_len l (fun y hy => h y (by simp [hy]))
    unfold tgtS edgN
    rw [List.length_append]; omega
/-- there are as many edges as nodes, but one -/
theorem edg_most {ts : List Tx} (h : goodV ts = 0) : (grS ts).length ≤ 1 + edgN (grS ts) := by
  have hs : ∀ t ∈ ts, t.size ≤ 100 := fun t ht => by have := good_sizes h t ht; omega
  have G := grS_ok h hs
  have h1 := len_sub (restsG (grS ts)) (ts :: tgtS (grS ts)) G.nodup (fun x hx => by
    rcases der_last ((gr_der h hs x).1 hx) with rfl | ⟨y, hy, h2⟩
    · simp
    · obtain ⟨g, hg, e⟩ := List.mem_map.1 ((gr_der h hs y).2 hy)
      exact List.mem_cons_of_mem _ (tgt_mem _ g x hg (by rw [e]; exact h2)))
  have h2 := tgt_len (grS ts) G.nodes
  rw [List.length_cons] at h1
  have h3 : (restsG (grS ts)).length = (grS ts).length := by simp [restsG]
  omega
theorem good_ins {ins : List Tx} (h1 : SortedS ins) (h2 : ∀ t ∈ ins, wordP t) (h3 : ins.length ≤ 60) : goodV ins = 0 := by
  unfold goodV
  rw [if_neg (by omega), if_neg (fun ⟨t, ht, hn⟩ => hn (h2 t ht)), if_pos h1]
theorem mem_words9 {ts : List Tx} {t : Tx} : t ∈ canonS (wordsOf ts) ↔ t ∈ ts ∧ wordP t := by rw [mem_canon]; simp [wordsOf]
set_option maxHeartbeats 3200000 in
theorem packSize_any (a : Option Addr) (n cap : Nat) (ts : List Tx) (w : World) (hh : HoldsT w a n ts) (hc : n ≤ cap) (hn : n ≤ 9223372036854775807) (hsz : ∀ t ∈ ts, t.size ≤ 9223372036854775807) :
    Calls Try.prog 7 #[.slice a n cap] w fun e w' => e = .returned (.bool true) ∧ Below w.heap.size w w' := by
  have CG := Lib.hid (great_any a n cap ts w hh hn hsz)
  have HH := Lib.hid hh
  have HL := Lib.hid hh.len
  by_cases q0 : greatB ts = true
  · rw [q0] at CG
    go_enter Try.func7, Try.ntmps7
    go_wp2_with fail
    refine CG.out.mono ?_
    rintro e w1 ⟨rfl, hb⟩
    have B1 := Lib.hid hb
    clear hb
    go_wp2_with fail
    refine (awake9_any _).mono ?_
    rintro e w' ⟨rfl, hb⟩
    have B2 := Lib.hid (B1.out.trans (hb.mono B1.out.size))
    clear hb
    go_wp2_with fail
    go_ret
    exact ⟨rfl, B2.out⟩
  have q0' : greatB ts = false := by simpa using q0
  rw [q0'] at CG
  obtain ⟨l80, hsm⟩ := great_no_iff.1 q0'
  have hsm : ∀ t ∈ ts, t.size ≤ 100 := hsm
  have CS := Lib.hid (fun (w1 : World) (hb : Below w.heap.size w w1) => sorted_any a n cap ts w1 (HH.out.below hb) hc (by have := HL.out; omega) hsz)
  obtain ⟨ins, hins⟩ : ∃ l, canonS (wordsOf ts) = l := ⟨_, rfl⟩
  have IW := Lib.hid (show ∀ t ∈ ins, wordP t ∧ t.size ≤ 100 from fun t ht => by
    rw [← hins] at ht
    have := mem_words9.1 ht
    exact ⟨this.2, hsm t this.1⟩)
  have IS := Lib.hid (show SortedS ins from by rw [← hins]; exact canon_sorted _)
  rw [hins] at CS
  obtain ⟨l, hl⟩ : ∃ l, ins.length = l := ⟨_, rfl⟩
  have l9 : l ≤ 1000 := by
    have h1 := canon_len (wordsOf ts)
    have h2 : (wordsOf ts).length ≤ ts.length := List.length_filter_le _ _
    rw [← hl, ← hins]; omega
  have HI := Lib.hid hl
  unfold RetO at CS
  rw [hl] at CS
  clear q0 q0' hsm hh hsz hins hl
  by_cases r0 : 60 < l
  · have d2 : decide ((60 : Int) < (l : Int)) = true := decide_eq_true (by omega)
    have CB := Lib.hid (fun ia ic (w1 : World) (h : HoldsT w1 ia l ins) => build_bad ia l ic ins 3 w1 h (by omega) (fun t ht => by have := (IW.out t ht).2; omega) (goodV_long (by rw [HI.out]; exact r0)) (by decide))
    clear r0
    go_enter Try.func7, Try.ntmps7
    go_wp2_with fail
    with_reducible refine CG.out.mono ?_
    rintro e w1 ⟨rfl, hb⟩
    have B1 := Lib.hid hb
    have CS1 := Lib.hid (CS.out w1 hb)
    clear hb CG CS
    go_wp2_with fail
    with_reducible refine CS1.out.mono ?_
    rintro e w2 ⟨ia, ic, rfl, ho, hb⟩
    have B2 := Lib.hid (B1.out.trans (hb.mono B1.out.size))
    have CB1 := Lib.hid (CB.out ia ic w2 (HoldsT.own ho))
    clear hb ho CS1 CB B1
    go_wp2_with fail
    with_reducible refine CB1.out.mono ?_
    rintro e w3 ⟨rfl, hb⟩
    have B3 := Lib.hid (B2.out.trans (hb.mono B2.out.size))
    clear hb CB1 B2
    go_wp2_with fail
    refine (awake9_any _).mono ?_
    rintro e w' ⟨rfl, hb⟩
    have B4 := Lib.hid (B3.out.trans (hb.mono B3.out.size))
    clear hb
    go_wp2_with fail
    go_ret
    exact ⟨rfl, B4.out⟩
  have hg : goodV ins = 0 := good_ins IS.out (fun t ht => (IW.out t ht).1) (by rw [HI.out]; omega)
  obtain ⟨st, hst⟩ : ∃ st, grS ins = st := ⟨_, rfl⟩
  obtain ⟨I, hI⟩ : ∃ I, imgB st = I := ⟨_, rfl⟩
  obtain ⟨m, hm⟩ : ∃ m, I.length = m := ⟨_, rfl⟩
  obtain ⟨L, hL⟩ : ∃ L, st.length = L := ⟨_, rfl⟩
  obtain ⟨E, hE⟩ : ∃ E, edgN st = E := ⟨_, rfl⟩
  have z1 : m = 10 + 3 * L + 6 * E := by rw [← hm, ← hI, imgB_size, hL, hE]
  have z2 : L ≤ 1 + E := by rw [← hL, ← hE, ← hst]; exact edg_most hg
  have z3 : L ≤ 721 := by rw [← hL, ← hst]; exact (grS_edges hg).1
  have z4 : m ≤ 524004 := by
    have := (imgB_len hg).2
    rw [hst, hI, hm] at this; exact this
  have GE := Lib.hid (fun (x : GN) (hx : x ∈ st) => (show x.edges.length ≤ 1000 from by have := (grS_edges hg).2 x (hst ▸ hx); omega))
  have CB := Lib.hid (fun ia ic (w1 : World) (hb : Below w.heap.size w w1) (h : HoldsT w1 ia l ins) (hc : l ≤ ic) => build_c (w0 := w) ia l ic ins st w1 hb h hc (by omega) (fun t ht => (IW.out t ht).2) hg hst)
  have CE := Lib.hid (fun g S (w1 : World) (c : CtxG w w1 g st S) => encode_c ins st I m hst w1 c hg hI hm)
  have CN := Lib.hid (fun g S (w1 : World) (c : CtxG w w1 g st S) => gNodes_c (L : Int) w1 c (by rw [hL]))
  have ET := Lib.hid (show ∀ j, j < L → edgN (st.take (j + 1)) = edgN (st.take j) + (st.getD j gn0).edges.length ∧ edgesG st (j : Int) = (st.getD j gn0).edges from fun j hj => ⟨edgN_take st j (by omega), (has_at (st := st) (k := j) (by omega)).2.1⟩)
  have EL := Lib.hid (show ∀ j, j ≤ L → edgN (st.take j) ≤ E from fun j hj => by
    have := edgN_app (st.take j) (st.drop j)
    rw [List.take_append_drop, hE] at this; omega)
  have EF := Lib.hid (show edgN (st.take L) = E from by rw [← hL, List.take_length, hE])
  have E0 := Lib.hid (show edgN (st.take 0) = 0 from rfl)
  clear hst hI hm hL hE hg r0
  have zE : E ≤ 90000 := by omega
  go_enter Try.func7, Try.ntmps7
  go_wp2_with fail
  with_reducible refine CG.out.mono ?_
  rintro e w1 ⟨rfl, hb⟩
  have B1 := Lib.hid hb
  have CS1 := Lib.hid (CS.out w1 hb)
  clear hb CG CS
  go_wp2_with fail
  with_reducible refine CS1.out.mono ?_
  rintro e w2 ⟨ia, ic, rfl, ho, hb⟩
  have B2 := Lib.hid (B1.out.trans (hb.mono B1.out.size))
  have CB1 := Lib.hid (CB.out ia ic w2 B2.out (HoldsT.own ho) (owns_none ho).2)
  clear hb ho CS1 CB B1 B2
  go_wp2_with fail
  with_reducible refine CB1.out.mono ?_
  rintro e w3 ⟨g, S, rfl, C, -⟩
  have C3 := Lib.hid C
  have CN3 := Lib.hid (CN.out g S w3 C)
  clear C CB1
  have ZM := Lib.hid z1
  clear z1
  go_wp2_with fail
  go_loopw [6, 7] (fun ev iv wr => ∃ (j : Nat) (x : Nat), j ≤ L ∧ iv = .int .i64 j ∧ ev = .int .i64 x ∧ Hid (edgN (st.take j) = x) ∧ Hid (CtxG w wr g st S)) (fun _ iv _ => L - (intOf iv).toNat)
  case atStart => exact ⟨0, 0, by omega, rfl, rfl, E0, C3⟩
  case round =>
    obtain ⟨j, x, hj, rfl, rfl, hX, hC⟩ := hrel
    clear C3 CN3
    have CN1 := Lib.hid (CN.out g S wr hC.out)
    have hxE : x ≤ E := by rw [← hX.out]; exact EL.out j hj
    by_cases hlt : j < L
    · have CE1 := Lib.hid (gEdges_c (j : Int) _ wr hC.out GE.out (ET.out j hlt).2)
      have d1 : decide (j < L) = true := decide_eq_true hlt
      have d2 : decide ((j : Int) < 2000) = true := decide_eq_true (by omega)
      obtain ⟨y, hy⟩ : ∃ y, (st.getD j gn0).edges.length = y := ⟨_, rfl⟩
      have HY := Lib.hid (show edgN (st.take (j + 1)) = x + y from by rw [(ET.out j hlt).1, hX.out, hy])
      have hxy : x + y ≤ E := by rw [← HY.out]; exact EL.out (j + 1) (by omega)
      unfold RetEd at CE1
      rw [hy] at CE1
      clear hy
      go_wp2_with fail
      with_reducible refine CN1.out.mono ?_
      rintro e w4 ⟨rfl, rfl⟩
      go_wp2_with fail
      with_reducible refine CE1.out.mono ?_
      rintro e w4 ⟨ea, ec, rfl, -, hb⟩
      have C4 := Lib.hid (hC.out.more hb)
      clear hb CE1 CN1
      go_wp2_with fail
      go_roundw
      case rel => exact ⟨j + 1, x + y, by omega, by go_num, by go_num, HY, C4⟩
      case measure => simp [intOf] <;> omega
    · obtain rfl : j = L := by omega
      have hxe : x = E := by rw [← hX.out]; exact EF.out
      subst hxe
      have d1 : decide (j < j) = false := decide_eq_false hlt
      have CE1 := Lib.hid (CE.out g S wr hC.out)
      have f1 : decide ((x : Int) ≥ (j : Int) - 1) = true := decide_eq_true (by omega)
      have f2 : decide ((j : Int) - 1 ≤ (x : Int)) = true := decide_eq_true (by omega)
      have f3 : ((m : Int) == 10 + 3 * (j : Int) + 6 * (x : Int)) = true := by rw [beq_iff_eq]; have := ZM.out; omega
      clear hlt
      go_wp2_with fail
      with_reducible refine CN1.out.mono ?_
      rintro e w4 ⟨rfl, rfl⟩
      go_wp2_with fail
      with_reducible refine CE1.out.mono ?_
      rintro e w5 ⟨a5, c5, rfl, -, -, hb, -⟩
      have C5 := Lib.hid (hC.out.more hb)
      have CN5 := Lib.hid (CN.out g S w5 C5.out)
      clear hb CE1 CN1
      go_wp2_with fail
      with_reducible refine CN5.out.mono ?_
      rintro e w6 ⟨rfl, rfl⟩
      go_wp2_with fail
      with_reducible refine CN5.out.mono ?_
      rintro e w6 ⟨rfl, rfl⟩
      go_wp2_with fail
      refine (awake9_any _).mono ?_
      rintro e w' ⟨rfl, hb⟩
      have C6 := Lib.hid (C5.out.more hb)
      clear hb
      go_wp2_with fail
      go_ret
      exact ⟨rfl, C6.out.b⟩
open Go.ChangeShapes Go.WideShapes Go.ChangeAt in
theorem packSize_walk {H : Type} {enc : TypeId × Value → H} (W : World) (base : Nat) (v0 : Value) (d0 : DataW H) (p0 : List MemPlace)
    (h0 : DataW.Trod enc Try.prog W 0 (fun _ => true) true 22 v0 d0 p0)
    (o0 : Value.okWide Try.prog W .any base 22 v0) :
    Calls Try.prog 7 #[v0] W fun e w' => e = .returned (.bool true) ∧ RowKit.Below W.heap.size W w' := by
  obtain ⟨a0, n0, c0, t0, rfl, x0, y0, z0, b0, s0⟩ := open_texts_arg o0 h0
  exact packSize_any a0 n0 c0 t0 W x0 z0 b0 s0
end Go.Proofs.Ytlcmndbnknifhaa
