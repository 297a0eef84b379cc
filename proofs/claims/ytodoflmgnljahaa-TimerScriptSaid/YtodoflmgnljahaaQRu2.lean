/- timers: the document's set; Cancel -/
import Derived.Test.YtodoflmgnljahaaQRu1
namespace Go.Proofs.Ytodoflmgnljahaa
open Go.RowKit
set_option linter.unusedVariables false
set_option maxRecDepth 20000
/-- the library's append onto what the call owns, at a step of a region that draws -/
theorem step_append_own {P : Program} {w : World} {ops : Array Oper} {o : Oper} {a : Act} {K : Act → World → Prop} {Q : Exit → Act → World → Prop} {E : Prop} (hgd : o.guard = none) (s x : Operand) (t : TypeId)
    (ho : o.op = .call { callee := .builtin .append, args := #[s, x], argTypes := #[t, t] })
    (base : Nat) (e : TypeId) (i : TypeInfo) (z : Value) (size bytes : Nat) (ht : P.underlying t = some (.slice e)) (hi : P.info? e = some i) (hz : i.zero = some z)
    (hsize : i.size = size) (hby : i.bytes = bytes) (hzs : z.cells.size = size) (hsz : 0 < size)
    (v : Value) (n : Nat) (xs : List Value) (hs : a.eval s = v) (hown : w.ownsRow base e size v n xs)
    (ad : Addr) (m c : Nat) (news : List Value) (hx : a.eval x = .slice (some ad) m c) (hl : news.length = m * size) (hnews : ∀ j u, news[j]? = some u → w.cell? (ad.add j) = some u) (h1 : ∀ u ∈ news, u.oneCell' = true)
    (h63 : n + m ≤ maxLen) (hbytes : (n + m) * bytes ≤ 140737488355328) (hbase : base ≤ w.heap.size)
    (h : ∀ a' c' w', w'.ownsRow base e size (.slice a' (n + m) c') (n + m) (xs ++ news) → w.grownBy w' v.ownBlock → K (a.put o.dst (.slice a' (n + m) c')) w') :
    if Region.wanted o (yielded ops a.tmps) = true then Oper.wp P o a w K Q else E := by
  have hw : Region.wanted o (yielded ops a.tmps) = true := by simp [Region.wanted, hgd]
  rw [if_pos hw]
  refine wp_append_own w s x t ho base e i z size bytes ht hi hz hsize hby hzs hsz v n xs hs hown ad m c news hx hl hnews h1 h63 hbytes hbase fun v' w' h2 h3 _ => ?_
  obtain ⟨a', c', rfl⟩ : ∃ a' c', v' = .slice a' (n + m) c' := by
    rcases h2.2 with ⟨e1, e2⟩ | ⟨g, cap, cur, hv, _⟩
    · exact ⟨none, 0, by rw [e1, e2]⟩
    · exact ⟨_, cap, hv⟩
  exact h a' c' w' h2 h3
theorem own_in {w : World} {a : Option Addr} {q c i : Nat} {L : List TM} {u : Value} (h : OwnO w a c L) (ha : a = some ⟨q, 0, none⟩) (hu : (tmV L)[i]? = some u) : w.cell? ⟨q, i, none⟩ = some u := by
  subst ha
  have hi : i < L.length * 2 := by
    have := (List.getElem?_eq_some_iff.1 hu).1
    rw [tmV_len] at this; exact this
  exact (h.cellAt i (by omega)).trans hu
theorem tmV_drop (L : List TM) (i : Nat) : (tmV L).drop (i * 2) = tmV (L.drop i) := by
  induction L generalizing i with
  | nil => simp [tmV]
  | cons a l ih =>
    cases i with
    | zero => simp [tmV]
    | succ i =>
      have := ih i
      simp only [tmV, List.drop_succ_cons] at this ⊢
      rw [show (i + 1) * 2 = i * 2 + 2 by omega]
      simpa using this
theorem cut_at {L : List TM} {id : Int} {i : Nat} (hn : (L.map TM.id).Nodup) (hi : i < L.length) (h : (gT L i).id = id) : L.take i ++ L.drop (i + 1) = cutM L id := by
  have e : L = L.take i ++ gT L i :: L.drop (i + 1) := by
    have := List.take_append_drop i L
    rw [List.drop_eq_getElem_cons hi] at this
    rw [show gT L i = L[i] by simp [gT, List.getD_eq_getElem?_getD, hi]]
    exact this.symm
  have h1 : cutM (gT L i :: (L.take i ++ L.drop (i + 1))) id = cutM (L.take i ++ L.drop (i + 1)) id := by
    unfold cutM
    rw [List.filter_cons_of_neg (by rw [h]; simp)]
  have h2 : (((gT L i) :: (L.take i ++ L.drop (i + 1))).map TM.id).Nodup := by
    have hp : (gT L i :: (L.take i ++ L.drop (i + 1))).Perm L := by
      conv => rhs; rw [e]
      exact List.perm_middle.symm
    exact (hp.map TM.id).nodup_iff.2 hn
  have h3 : id ∉ (L.take i ++ L.drop (i + 1)).map TM.id := by
    rw [List.map_cons, List.nodup_cons, h] at h2; exact h2.1
  have h4 : cutM L id = cutM (L.take i ++ L.drop (i + 1)) id := by
    conv => lhs; rw [e]
    unfold cutM
    rw [List.filter_append, List.filter_append, List.filter_cons_of_neg (by rw [h]; simp)]
  rw [h4, cut_not h3]
set_option maxHeartbeats 3200000 in
theorem rCancel_any (b : Nat) (most : Int) (L : List TM) (id : Int) (S : Nat → Prop) (w : World) (h : RQT b most L w S) (hl : L.length ≤ 24) (hN : (L.map TM.id).Nodup) :
    Calls Try.prog 13 #[.pointer (some ⟨b, 0, none⟩), .int .i64 id] w fun e w' => e = .returned (.bool (decide (id ∈ L.map TM.id))) ∧ PO (RQT b most (cutM L id)) w S w' := by
  obtain ⟨i0, hi, hz0, hz1, hz2⟩ := info_parts one_info
  have HQ := Lib.hid h
  obtain ⟨na, nc, h1, h2, h3, h4, h5, h6, h7⟩ := h
  have OW := Lib.hid h4
  have LB := Lib.hid (h7 b h5)
  have HND := Lib.hid hN
  have g1 := h1
  have f1 := h3 0
  have GC := Lib.hid (show ∀ w' : World, w.drew.grownBy w' none → w'.cell? ⟨b, 0, none⟩ = some (.slice na L.length nc) ∧ w'.frozen? ⟨b, 0, none⟩ = false from fun w' hg =>
    ⟨(hg.cell_far ⟨b, 0, none⟩ (LB.out) (by simp)).trans h1, (hg.frozen_far ⟨b, 0, none⟩ (LB.out) (by simp)).trans (h3 0)⟩)
  have QB := Lib.hid (fun q (e : na = some ⟨q, 0, none⟩) => h7 q (h6 q e).1)
  obtain ⟨n, hn⟩ : ∃ n, L.length = n := ⟨_, rfl⟩
  have HN := Lib.hid hn
  rw [hn] at h1 hl GC g1
  clear h2 h3 h4 h5 h6 h7 hn hN g1
  go_enter Try.func13, Try.ntmps13
  go_wp2_with fail
  go_loopw [5] (fun iv wr => ∃ j : Nat, j ≤ n ∧ iv = .int .i64 j ∧ Hid (∀ k, k < j → (gT L k).id ≠ id) ∧ wr = w) (fun iv _ => n - (intOf iv).toNat)
  case atStart => exact ⟨0, by omega, rfl, Lib.hid (fun k hk => by omega), rfl⟩
  case round =>
    obtain ⟨j, hj, rfl, hS, rfl⟩ := hrel
    by_cases hlt : j < n
    · obtain ⟨q, rfl, e0, e1⟩ := OW.out.at (i := j) (by rw [HN.out]; exact hlt)
      obtain ⟨x, hx⟩ : ∃ x, gT L j = x := ⟨_, rfl⟩
      rw [hx] at e0 e1
      have n1 : (0 : Int) ≤ (j : Int) := by omega
      have n2 : (j : Int) < (n : Int) := by omega
      by_cases hp : x.id = id
      · have hb : (x.id == id) = true := by simpa using hp
        have CUT := Lib.hid (show L.take j ++ L.drop (j + 1) = cutM L id from cut_at HND.out (show j < L.length by rw [HN.out]; exact hlt) (by rw [hx]; exact hp))
        have MEM := Lib.hid (show decide (id ∈ L.map TM.id) = true from decide_eq_true (by
          rw [← hp, ← hx]
          exact List.mem_map_of_mem (by have := HN.out; simp [gT, List.getD_eq_getElem?_getD, show j < L.length by omega])))
        have ncap : n ≤ nc := by
          have hr := OW.out
          unfold OwnO at hr
          rw [HN.out] at hr
          rcases hr.2 with ⟨-, e2⟩ | ⟨g, cap, cur, hv, hge, hh, hc, -⟩
          · omega
          · simp only [Value.slice.injEq] at hv
            rw [hv.2.2]; exact hc
        have n3 : j ≤ nc := by omega
        obtain ⟨J, hJ⟩ : ∃ J, J = j + 1 := ⟨_, rfl⟩
        rw [← hJ] at CUT
        have n4 : J ≤ nc := by omega
        have n5 : J ≤ n := by omega
        have n6 : (j : Int) ≤ (nc : Int) := by omega
        have n7 : (J : Int) ≤ (n : Int) := by omega
        have n8 : (0 : Int) ≤ (J : Int) := by omega
        have wj : IntKind.i64.wrap ((j : Int) + 1) = (J : Int) := by rw [hJ]; rw [IntKind.wrap_i64]; omega
        have L1 := Lib.hid (show (tmV (L.take j)).length = j * 2 from by rw [tmV_len, List.length_take, HN.out]; omega)
        have L2 := Lib.hid (show (tmV (L.drop J)).length = (n - J) * 2 from by rw [tmV_len, List.length_drop, HN.out])
        have O1 := Lib.hid (show ∀ u ∈ tmV (L.take j), u.oneCell' = true from tmV_one _)
        have O2 := Lib.hid (show ∀ u ∈ tmV (L.drop J), u.oneCell' = true from tmV_one _)
        have C1 := Lib.hid (show ∀ (t : Nat) u, (tmV (L.take j))[t]? = some u → wr.drew.cell? ((⟨q, 0, none⟩ : Addr).add t) = some u from fun t u hu => by
          rw [Go.WideShapes.add_plain, Nat.zero_add]
          refine own_in (w := wr) OW.out rfl ?_
          rw [← tmV_take] at hu
          have ht := (List.getElem?_eq_some_iff.1 hu).1
          rw [List.getElem?_take_of_lt (by rw [List.length_take] at ht; omega)] at hu
          exact hu)
        obtain ⟨A, hA, hsrc⟩ : ∃ A : Addr, (if nc = J then some (⟨q, 0, none⟩ : Addr) else some ⟨q, J * 2, none⟩) = some A ∧ Hid (∀ w' : World, wr.drew.grownBy w' none → ∀ t u, (tmV (L.drop J))[t]? = some u → w'.cell? (A.add t) = some u) := by
          by_cases hc : nc = J
          · refine ⟨⟨q, 0, none⟩, by simp [hc], Lib.hid (fun w' hg t u hu => ?_)⟩
            have ht := (List.getElem?_eq_some_iff.1 hu).1
            rw [L2.out] at ht
            exfalso; omega
          · refine ⟨⟨q, J * 2, none⟩, by simp [hc], Lib.hid (fun w' hg t u hu => ?_)⟩
            rw [Go.WideShapes.add_plain]
            refine (hg.cell_far ⟨q, J * 2 + t, none⟩ (QB.out q rfl) (by simp)).trans (own_in (w := wr) OW.out rfl ?_)
            rw [← tmV_drop, List.getElem?_drop] at hu
            exact hu
        have GD := Lib.hid (show ∀ (w1 w2 : World) a1 c1, w1.ownsRow wr.heap.size 62 2 (.slice a1 j c1) j (tmV (L.take j)) → wr.drew.grownBy w1 none → w1.grownBy w2 (Value.slice a1 j c1).ownBlock → Below wr.heap.size wr w2 from fun w1 w2 a1 c1 o1 g1 g2 =>
          ((Below.refl wr.heap.size wr).drew.grown g1 (Nat.le_refl _) (fun k e => by cases e)).grown g2 g1.size (fun k e => (o1.lt k e).1))
        have GE := Lib.hid (show ∀ (w2 : World), Below wr.heap.size wr w2 → w2.cell? ⟨b, 0, none⟩ = some (.slice (some ⟨q, 0, none⟩) n nc) ∧ w2.frozen? ⟨b, 0, none⟩ = false from fun w2 hb => ⟨(hb.cell (p := ⟨b, 0, none⟩) LB.out).trans h1, (hb.frozen (p := ⟨b, 0, none⟩) LB.out).trans f1⟩)
        have LC := Lib.hid (show (cutM L id).length = j + (n - J) from by
          rw [← CUT.out, List.length_append, List.length_take, List.length_drop, HN.out]; omega)
        clear hx hJ
        go_upto_region 5 with fail
        go_region_law
          (first
            | (refine step_append_own (by rfl) _ _ _ (by rfl) wr.heap.size 62 i0 _ 2 16 Try.underlying43 hi hz0 hz1 hz2 rfl (by omega) (.slice none 0 0) 0 [] (by first | rfl | (simp [Act.eval]; done) | (simp [Act.eval, Act.put]; done)) (World.ownsRow_nil _ _ _ _) ⟨q, 0, none⟩ j nc (tmV (L.take j)) (by first | rfl | (simp [Act.eval]; done) | (simp [Act.eval, Act.put]; done)) L1.out C1.out O1.out (by unfold maxLen; omega) (by omega) (Nat.le_refl _) ?_; intro a1 c1 w1 hown1 hgrow1; obtain ⟨y0, y1⟩ := GC.out w1 hgrow1; rw [Nat.zero_add, List.nil_append] at hown1)
            | (refine step_append_own (by rfl) _ _ _ (by rfl) wr.heap.size 62 i0 _ 2 16 Try.underlying43 hi hz0 hz1 hz2 rfl (by omega) (.slice a1 j c1) j (tmV (L.take j)) (by first | rfl | (simp [Act.eval]; done) | (simp [Act.eval, Act.put]; done)) hown1 A (n - J) (nc - J) (tmV (L.drop J)) (by first | rfl | (simp [Act.eval, hA]; done) | (simp [Act.eval, Act.put, hA]; done)) L2.out (hsrc.out w1 hgrow1) O2.out (by unfold maxLen; omega) (by omega) hgrow1.size ?_; intro a2 c2 w2 hown2 hgrow2; have B2 := Lib.hid (GD.out w1 w2 a1 c1 hown1 hgrow1 hgrow2); obtain ⟨z0, z1⟩ := GE.out w2 B2.out))
        all_goals
          have FIN := Lib.hid (show PO (RQT b most (cutM L id)) wr S (w2.setCell ⟨b, 0, none⟩ (.slice a2 (j + (n - J)) c2)) from by
            have h5 := hown2
            rw [← tmV_app, CUT.out] at h5
            have h6 := rqt_renew (L' := cutM L id) (a := a2) (c := c2) HQ.out B2.out (by rw [LC.out]; exact h5)
            rw [LC.out] at h6
            exact h6)
          clear hown1 hgrow1 hown2 hgrow2 y0 y1 z0 z1
          go_wp2_with fail
          go_ret
          rw [MEM.out]
          exact ⟨rfl, FIN.out⟩
      · have hb : (x.id == id) = false := by simpa using hp
        have SN := Lib.hid (show ∀ k, k < j + 1 → (gT L k).id ≠ id from fun k hk => by
          rcases Nat.lt_or_ge k j with h | h
          · exact hS.out k h
          · obtain rfl : k = j := by omega
            rw [hx]; exact hp)
        clear hp hx
        go_wp2_with fail
        go_roundw
        case rel => exact ⟨j + 1, by omega, by go_num, SN, (by first | rfl | trivial)⟩
        case measure => simp [intOf] <;> omega
    · have NM : id ∉ L.map TM.id := fun h => by
        obtain ⟨y, hy, e⟩ := List.mem_map.1 h
        obtain ⟨k, hk, rfl⟩ := List.getElem_of_mem hy
        have h1 := hS.out k (by have := HN.out; omega)
        rw [show gT L k = L[k] by simp [gT, List.getD_eq_getElem?_getD, hk]] at h1
        exact h1 e
      have MEM := Lib.hid (decide_eq_false NM)
      have FIN := Lib.hid (show PO (RQT b most (cutM L id)) wr S wr from by rw [cut_not NM]; exact ⟨S, HQ.out, fun k hk => Or.inl hk, Turn.refl _ _⟩)
      clear NM
      go_wp2_with fail
      go_ret
      rw [MEM.out]
      exact ⟨rfl, FIN.out⟩
end Go.Proofs.Ytodoflmgnljahaa
