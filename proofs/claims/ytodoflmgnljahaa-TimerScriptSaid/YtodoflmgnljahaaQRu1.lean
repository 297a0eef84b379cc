/- timers: the document's set; New, At, Due -/
import Derived.Test.YtodoflmgnljahaaPkB
namespace Go.Proofs.Ytodoflmgnljahaa
open Go.RowKit
set_option linter.unusedVariables false
set_option maxRecDepth 20000
theorem one_info : (Try.prog.info? 62).map (fun i => (i.zero, i.size, i.bytes)) = some (some (.agg #[.int .i64 0, .int .i64 0]), 2, 16) := by kernel_rfl
abbrev OwnO (w : World) (a : Option Addr) (c : Nat) (L : List TM) : Prop := w.ownsRow 0 62 2 (.slice a L.length c) L.length (tmV L)
theorem OwnO.at {w : World} {a : Option Addr} {c : Nat} {L : List TM} (h : OwnO w a c L) {i : Nat} (hi : i < L.length) : ∃ q, a = some ⟨q, 0, none⟩ ∧ w.cell? ⟨q, i * 2, none⟩ = some (.int .i64 (gT L i).id) ∧ w.cell? ⟨q, i * 2 + 1, none⟩ = some (.int .i64 (gT L i).at_) := by
  obtain ⟨q, cap', hv⟩ := Joins.ownsRow_form h (by omega)
  simp only [Value.slice.injEq] at hv
  obtain ⟨hv, -, -⟩ := hv
  subst hv
  obtain ⟨v0, v1⟩ := tmV_at L i hi
  exact ⟨q, rfl, (h.cellAt (i * 2) (by omega)).trans v0, (h.cellAt (i * 2 + 1) (by omega)).trans v1⟩
/-- block b is the document's set of these timers, as they stand -/
def RQT (b : Nat) (most : Int) (L : List TM) (w : World) (S : Nat → Prop) : Prop := ∃ na nc, w.cell? ⟨b, 0, none⟩ = some (.slice na L.length nc) ∧ w.cell? ⟨b, 1, none⟩ = some (.int .i64 most) ∧ (∀ i, w.frozen? ⟨b, i, none⟩ = false) ∧ OwnO w na nc L ∧ S b ∧ (∀ q, na = some ⟨q, 0, none⟩ → S q ∧ q ≠ b) ∧ ∀ k, S k → k < w.heap.size
theorem rqt_ok (b : Nat) (most : Int) (L : List TM) : ObjOk (RQT b most L) :=
  ⟨fun h t hF => by
    obtain ⟨na, nc, h1, h2, h3, h4, h5, h6, h7⟩ := h
    have lb := h7 b h5
    exact ⟨na, nc, (t.cell lb (hF b h5)).trans h1, (t.cell lb (hF b h5)).trans h2, fun i => (t.frozen lb (hF b h5)).trans (h3 i), gownsT h4 (fun q hq => t.block q (h7 q (h6 q hq).1) (hF q (h6 q hq).1)), h5, h6, fun k hk => Nat.lt_of_lt_of_le (h7 k hk) t.size⟩,
   fun h => by obtain ⟨na, nc, h1, h2, h3, h4, h5, h6, h7⟩ := h; exact h7⟩
theorem rqt_renew {b : Nat} {most : Int} {L L' : List TM} {w w3 : World} {S : Nat → Prop} {a : Option Addr} {c : Nat} (h : RQT b most L w S) (hb : Below w.heap.size w w3) (ho : w3.ownsRow w.heap.size 62 2 (.slice a L'.length c) L'.length (tmV L')) :
    PO (RQT b most L') w S (w3.setCell ⟨b, 0, none⟩ (.slice a L'.length c)) := by
  obtain ⟨na, nc, h1, h2, h3, h4, h5, h6, h7⟩ := h
  have lb := h7 b h5
  have sz : (w3.setCell ⟨b, 0, none⟩ (.slice a L'.length c)).heap.size = w3.heap.size := by simp [World.setCell]
  have hq : ∀ q, a = some ⟨q, 0, none⟩ → w.heap.size ≤ q ∧ q < w3.heap.size := fun q e => ho.lt q (by rw [e]; rfl)
  refine ⟨fun k => k = b ∨ a = some ⟨k, 0, none⟩, ⟨a, c, cset_at ((hb.cell (p := ⟨b, 0, none⟩) lb).trans h1), (cset_ne (by omega)).trans ((hb.cell (p := ⟨b, 1, none⟩) lb).trans h2), fun i => fset_any.trans ((hb.frozen (p := ⟨b, i, none⟩) lb).trans (h3 i)), ?_, Or.inl rfl, fun q e => ⟨Or.inr e, by have := (hq q e).1; omega⟩, fun k hk => ?_⟩, fun k hk => ?_, ?_⟩
  · exact base_less (gownsT ho (fun q e => Below.heap_setCell _ _ _ _ (by have := (hq q e).1; show q ≠ b; omega))) (Nat.zero_le _)
  · rw [sz]
    rcases hk with rfl | e
    · have := hb.size; omega
    · exact (hq k e).2
  · rcases hk with rfl | e
    · exact Or.inl h5
    · exact Or.inr (hq k e).1
  · exact (Turn.of_below hb).trans (Turn.setCell h5)
theorem rNew17_any (most : Int) (w : World) (h : 1 ≤ most ∧ most ≤ 24) :
    Calls Try.prog 10 #[.int .i64 most] w fun e w' => ∃ b S, e = .returned (.tuple #[.pointer (some ⟨b, 0, none⟩), .int .i64 0]) ∧ RQT b most [] w' S ∧ (∀ k, S k → w.heap.size ≤ k) ∧ Below w.heap.size w w' := by
  have FIN := Lib.hid (show RQT w.heap.size most [] (w.alloc (.cells #[.slice none 0 0, .int .i64 most] 45)) (fun k => k = w.heap.size) from
    ⟨none, 0, by rw [cell_alloc rfl]; rfl, by rw [cell_alloc rfl]; rfl, fun i => frozen_alloc rfl, World.ownsRow_nil _ _ _ _, rfl, fun q e => (by cases e), fun k hk => by rw [hk]; simp⟩)
  have B1 := Lib.hid (below_one w (.cells #[.slice none 0 0, .int .i64 most] 45))
  have d1 : decide (most < 1) = false := decide_eq_false (by omega)
  have d2 : decide (most > 24) = false := decide_eq_false (by omega)
  have d3 : decide (24 < most) = false := decide_eq_false (by omega)
  clear h
  go_enter Try.func10, Try.ntmps10
  go_wp2_with fail
  go_ret2
  exact ⟨_, _, rfl, FIN.out, fun k hk => by rw [hk]; omega, B1.out⟩
theorem rNew17_bad (most : Int) (w : World) (h : ¬ (1 ≤ most ∧ most ≤ 24)) :
    Calls Try.prog 10 #[.int .i64 most] w fun e w' => e = .returned (.tuple #[.pointer none, .int .i64 2]) ∧ w = w' := by
  by_cases h1 : most < 1
  · have d1 : decide (most < 1) = true := decide_eq_true h1
    clear h
    go_enter Try.func10, Try.ntmps10
    go_wp2_with fail
    go_ret2
    exact ⟨rfl, rfl⟩
  · have d1 : decide (most < 1) = false := decide_eq_false h1
    have d2 : decide (most > 24) = true := decide_eq_true (by omega)
    have d3 : decide (24 < most) = true := decide_eq_true (by omega)
    clear h
    go_enter Try.func10, Try.ntmps10
    go_wp2_with fail
    go_ret2
    exact ⟨rfl, rfl⟩
set_option maxHeartbeats 1600000 in
theorem rAt17_any (b : Nat) (most : Int) (L : List TM) (id : Int) (S : Nat → Prop) (w : World) (h : RQT b most L w S) (hl : L.length ≤ 24) :
    Calls Try.prog 17 #[.pointer (some ⟨b, 0, none⟩), .int .i64 id] w fun e w' => ∃ v c, e = .returned (.tuple #[.int .i64 v, .bool c]) ∧ AtT L id v c ∧ w = w' := by
  obtain ⟨na, nc, h1, h2, h3, h4, h5, h6, h7⟩ := h
  have OW := Lib.hid h4
  obtain ⟨n, hn⟩ : ∃ n, L.length = n := ⟨_, rfl⟩
  have HN := Lib.hid hn
  rw [hn] at h1 hl
  clear h3 h4 h5 h6 h7 hn
  go_enter Try.func17, Try.ntmps17
  go_wp2_with fail
  go_loopw [6] (fun iv wr => ∃ j : Nat, j ≤ n ∧ iv = .int .i64 j ∧ Hid (∀ k, k < j → (gT L k).id ≠ id) ∧ wr = w) (fun iv _ => n - (intOf iv).toNat)
  case atStart => exact ⟨0, by omega, rfl, Lib.hid (fun k hk => by omega), rfl⟩
  case round =>
    obtain ⟨j, hj, rfl, hS, rfl⟩ := hrel
    by_cases hlt : j < n
    · obtain ⟨q, rfl, e0, e1⟩ := OW.out.at (i := j) (by rw [HN.out]; exact hlt)
      obtain ⟨x, hx⟩ : ∃ x, gT L j = x := ⟨_, rfl⟩
      rw [hx] at e0 e1
      have HX := Lib.hid hx
      have n1 : (0 : Int) ≤ (j : Int) := by omega
      have n2 : (j : Int) < (n : Int) := by omega
      by_cases hp : x.id = id
      · have hb : (x.id == id) = true := by simpa using hp
        have AV := Lib.hid (show AtT L id x.at_ true from Or.inl ⟨x, by rw [← hx]; have := HN.out; simp [gT, List.getD_eq_getElem?_getD, show j < L.length by omega], hp, rfl, rfl⟩)
        clear hp hx
        go_wp2_with fail
        go_ret2
        exact ⟨_, _, rfl, AV.out, rfl⟩
      · have hb : (x.id == id) = false := by simpa using hp
        have SN := Lib.hid (show ∀ k, k < j + 1 → (gT L k).id ≠ id from fun k hk => by
          rcases Nat.lt_or_ge k j with h | h
          · exact hS.out k h
          · obtain rfl : k = j := by omega
            rw [hx]; exact hp)
        clear hp hx
        go_wp2_with fail
        go_roundw
        case rel => exact ⟨j + 1, by omega, by go_num, SN, (by first | rfl | trivial)⟩
        case measure => simp [intOf] <;> omega
    · have AV := Lib.hid (show AtT L id 0 false from Or.inr ⟨fun x hx => by
        obtain ⟨k, hk, rfl⟩ := List.getElem_of_mem hx
        have h1 := hS.out k (by have := HN.out; omega)
        simpa [gT, List.getD_eq_getElem?_getD, List.getElem?_eq_getElem hk] using h1, rfl, rfl⟩)
      go_wp2_with fail
      go_ret2
      exact ⟨_, _, rfl, AV.out, rfl⟩
theorem tw_here {L : List TM} {p : TM → Bool} : ∀ {j : Nat}, (∀ k, k < j → p (gT L k) = true) → j ≤ L.length → (j = L.length ∨ (j < L.length ∧ p (gT L j) = false)) → L.takeWhile p = L.take j := by
  induction L with
  | nil => intro j h1 h2 h3; simp
  | cons a l ih =>
    intro j h1 h2 h3
    cases j with
    | zero =>
      rcases h3 with h | ⟨-, h⟩
      · simp at h
      · rw [List.takeWhile_cons_of_neg (by have : p a = false := h; simp [this])]; rfl
    | succ j =>
      have ha : p a = true := h1 0 (by omega)
      rw [List.takeWhile_cons_of_pos ha, List.take_succ_cons, ih (j := j) (fun k hk => h1 (k + 1) (by omega)) (by simpa using h2) (by
        rcases h3 with h | ⟨h, h'⟩
        · exact Or.inl (by simpa using h)
        · exact Or.inr ⟨by simpa using h, h'⟩)]
theorem due_sorted {L : List TM} (h : L.Pairwise leT) (now : Int) : dueM L now = (L.takeWhile (fun x => decide (x.at_ ≤ now))).map TM.id := by
  have h1 : ∀ (l : List TM), l.Pairwise leT → l.filter (fun x => decide (x.at_ ≤ now)) = l.takeWhile (fun x => decide (x.at_ ≤ now)) := by
    intro l
    induction l with
    | nil => intro _; rfl
    | cons a l ih =>
      intro hp
      rw [List.pairwise_cons] at hp
      by_cases hc : a.at_ ≤ now
      · rw [List.filter_cons_of_pos (by simpa using hc), List.takeWhile_cons_of_pos (by simpa using hc), ih hp.2]
      · rw [List.filter_cons_of_neg (by simpa using hc), List.takeWhile_cons_of_neg (by simpa using hc), List.filter_eq_nil_iff]
        intro y hy
        have := (leT_def _ _).1 (hp.1 y hy)
        simp; omega
  unfold dueM
  rw [sort_of (m := L.filter (fun x => decide (x.at_ ≤ now))) (h.sublist List.filter_sublist) (List.Perm.refl _), h1 L h]
set_option maxHeartbeats 1600000 in
theorem rDue17_any (b : Nat) (most : Int) (L : List TM) (now : Int) (S : Nat → Prop) (w : World) (h : RQT b most L w S) (hl : L.length ≤ 24) (hs : L.Pairwise leT) :
    Calls Try.prog 20 #[.pointer (some ⟨b, 0, none⟩), .int .i64 now] w (DueP w (dueM L now)) := by
  obtain ⟨j0, hj, hy0, hy1, hy2⟩ := info_parts int_infoT
  rw [due_sorted hs]
  have HQ := Lib.hid h
  obtain ⟨n, hn⟩ : ∃ n, L.length = n := ⟨_, rfl⟩
  have HN := Lib.hid hn
  rw [hn] at hl
  obtain ⟨D, hD⟩ : ∃ D, L.takeWhile (fun x => decide (x.at_ ≤ now)) = D := ⟨_, rfl⟩
  have HD := Lib.hid hD
  rw [hD]
  have DR := Lib.hid (show ∀ w', Below w.heap.size w w' → ∃ na nc, w'.cell? ⟨b, 0, none⟩ = some (.slice na n nc) ∧ OwnO w' na nc L from fun w' hb => by
    obtain ⟨na, nc, h1, h2, h3, h4, h5, h6, h7⟩ := (rqt_ok b most L).below HQ.out hb
    rw [hn] at h1
    exact ⟨na, nc, h1, h4⟩)
  clear h hn hD hs
  go_enter Try.func20, Try.ntmps20
  go_wp2_with fail
  go_loopw [5, 6] (fun ov iv wr => ∃ (j : Nat) (oa : Option Addr) (oc : Nat), j ≤ n ∧ ov = .slice oa j oc ∧ iv = .int .i64 j ∧ Hid (∀ k, k < j → (gT L k).at_ ≤ now) ∧ Hid (wr.ownsRow w.heap.size 3 1 (.slice oa j oc) j (intsT ((L.take j).map TM.id))) ∧ Hid (Below w.heap.size w wr)) (fun _ iv _ => n - (intOf iv).toNat)
  case atStart => exact ⟨0, none, 0, by omega, rfl, rfl, Lib.hid (fun k hk => by omega), Lib.hid (World.ownsRow_nil _ _ _ _), Lib.hid (Below.refl _ _)⟩
  case round =>
    obtain ⟨j, oa, oc, hj', rfl, rfl, hA, hO, hB⟩ := hrel
    obtain ⟨na, nc, c0, own⟩ := DR.out wr hB.out
    by_cases hlt : j < n
    · have d1 : decide ((j : Int) < (n : Int)) = true := decide_eq_true (by omega)
      obtain ⟨q, rfl, e0, e1⟩ := own.at (i := j) (by rw [HN.out]; exact hlt)
      obtain ⟨x, hx⟩ : ∃ x, gT L j = x := ⟨_, rfl⟩
      rw [hx] at e0 e1
      have n1 : (0 : Int) ≤ (j : Int) := by omega
      have n2 : (j : Int) < (n : Int) := by omega
      by_cases hle : x.at_ ≤ now
      · have d2 : decide (x.at_ ≤ now) = true := decide_eq_true hle
        have AN := Lib.hid (show ∀ k, k < j + 1 → (gT L k).at_ ≤ now from fun k hk => by
          rcases Nat.lt_or_ge k j with h | h
          · exact hA.out k h
          · obtain rfl : k = j := by omega
            rw [hx]; exact hle)
        have TK := Lib.hid (show intsT ((L.take (j + 1)).map TM.id) = intsT ((L.take j).map TM.id) ++ [.int .i64 x.id] from by
          have h2 : L.take (j + 1) = L.take j ++ [x] := by
            rw [List.take_add_one, List.getElem?_eq_getElem (show j < L.length by rw [HN.out]; exact hlt), ← hx]
            simp [gT, List.getD_eq_getElem?_getD, show j < L.length by rw [HN.out]; exact hlt]
          rw [h2]; simp [intsT])
        have hbl := hB.out.size
        clear hle hx own
        go_wp2_with (at_builtin; refine wpList_append_lies _ rfl (.tmp 28) (.tmp 37) 39 rfl w.heap.size 3 j0 _ 1 8 Try.underlying39 hj hy0 hy1 hy2 rfl (by omega) (.slice oa j oc) j (intsT ((L.take j).map TM.id)) (by rfl) (hO.out.alloc _) ⟨wr.heap.size, 0, none⟩ 1 1 [.int .i64 x.id] (by rfl) (by rfl) (World.news_of_block (cs := #[.int .i64 x.id]) (t := 3) (fr := (0, 0)) (heap_alloc_new wr _)) (by simp [Value.oneCell']) (by omega) (by unfold maxLen; omega) (by omega) (by simp; omega) (wr.heap.size + 1) (by simp) ?_; intro g3 c3' w8 hown3 hgrow3 hat3 hlt3; obtain ⟨tr, hw⟩ := ints_grow hO.out hgrow3 (hat3.imp id (fun e => by simp; exact e)))
        have O8 := Lib.hid (show w8.ownsRow w.heap.size 3 1 (.slice (some ⟨g3, 0, none⟩) (j + 1) c3') (j + 1) (intsT ((L.take (j + 1)).map TM.id)) from by rw [TK.out]; exact hown3)
        have B8 := Lib.hid (hB.out.trans (tr.below (fun k hk => (hO.out.lt k (by rw [hk]; rfl)).1) hbl))
        clear hown3 hgrow3 hat3 hlt3 tr hw
        go_roundw
        case rel => exact ⟨j + 1, some ⟨g3, 0, none⟩, c3', by omega, rfl, by go_num, AN, O8, B8⟩
        case measure => simp [intOf] <;> omega
      · have d2 : decide (x.at_ ≤ now) = false := decide_eq_false hle
        have FD := Lib.hid (show L.take j = D from by
          rw [← HD.out]
          exact (tw_here (fun k hk => decide_eq_true (hA.out k hk)) (by rw [HN.out]; omega) (Or.inr ⟨by rw [HN.out]; exact hlt, by rw [hx]; exact decide_eq_false hle⟩)).symm)
        have LJ := Lib.hid (show D.length = j from by rw [← FD.out, List.length_take, HN.out]; omega)
        clear hle hx own
        go_wp2_with fail
        go_ret
        have h1 := hO.out
        rw [FD.out] at h1
        refine ⟨oa, oc, by rw [List.length_map, LJ.out]; rfl, ?_, hB.out⟩
        rw [List.length_map, LJ.out]
        exact holdsJ_own (by rw [List.length_map, LJ.out]) h1
    · obtain rfl : j = n := by omega
      have d1 : decide ((j : Int) < (j : Int)) = false := decide_eq_false (by omega)
      have FD := Lib.hid (show L.take j = D from by
        rw [← HD.out]
        exact (tw_here (fun k hk => decide_eq_true (hA.out k hk)) (by rw [HN.out]; omega) (Or.inl HN.out.symm)).symm)
      have LJ := Lib.hid (show D.length = j from by rw [← FD.out, List.length_take, HN.out]; omega)
      clear own
      go_wp2_with fail
      go_ret
      have h1 := hO.out
      rw [FD.out] at h1
      refine ⟨oa, oc, by rw [List.length_map, LJ.out]; rfl, ?_, hB.out⟩
      rw [List.length_map, LJ.out]
      exact holdsJ_own (by rw [List.length_map, LJ.out]) h1
end Go.Proofs.Ytodoflmgnljahaa
