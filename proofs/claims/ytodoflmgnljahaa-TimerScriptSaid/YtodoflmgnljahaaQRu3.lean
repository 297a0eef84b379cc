/- timers: the document's set; Set -/
import Derived.Test.YtodoflmgnljahaaQRu2
namespace Go.Proofs.Ytodoflmgnljahaa
open Go.RowKit
set_option linter.unusedVariables false
set_option maxRecDepth 20000
theorem po_seq {Q Q' : World → (Nat → Prop) → Prop} {w w1 w2 : World} {S : Nat → Prop} (h : PO Q w S w1) (k : ∀ S1, Q w1 S1 → PO Q' w1 S1 w2) : PO Q' w S w2 := by
  obtain ⟨S1, q, s, t⟩ := h
  obtain ⟨S2, q2, s2, t2⟩ := k S1 q
  have hz := t.size
  refine ⟨S2, q2, fun k hk => ?_, ⟨t2.os.trans t.os, t2.tape.trans t.tape, t2.output.trans t.output, Nat.le_trans hz t2.size, fun k hk hn => (t2.block k (Nat.lt_of_lt_of_le hk hz) (fun e => ?_)).trans (t.block k hk hn)⟩⟩
  · rcases s2 k hk with x | x
    · exact s k x
    · exact Or.inr (Nat.le_trans hz x)
  · rcases s k e with x | x
    · exact hn x
    · omega
/-- a timer among others, where the document puts it -/
def insR (x : TM) : List TM → List TM
  | [] => [x]
  | y :: l => if lessT x y then x :: y :: l else y :: insR x l
theorem insR_perm (x : TM) : ∀ l, (insR x l).Perm (x :: l)
  | [] => List.Perm.refl _
  | y :: l => by
    unfold insR
    split
    · exact List.Perm.refl _
    · exact ((insR_perm x l).cons y).trans (List.Perm.swap x y l)
theorem insR_sorted {x : TM} : ∀ {l : List TM}, l.Pairwise leT → (insR x l).Pairwise leT
  | [], _ => by simp [insR]
  | y :: l, h => by
    rw [List.pairwise_cons] at h
    unfold insR
    split
    · rename_i hx
      refine List.pairwise_cons.2 ⟨fun z hz => ?_, List.pairwise_cons.2 h⟩
      rcases List.mem_cons.1 hz with rfl | hz
      · exact leT_of_less hx
      · exact leT_trans (leT_of_less hx) (h.1 z hz)
    · rename_i hx
      refine List.pairwise_cons.2 ⟨fun z hz => ?_, insR_sorted h.2⟩
      rcases List.mem_cons.1 ((insR_perm x l).mem_iff.1 hz) with rfl | hz
      · exact hx
      · exact h.1 z hz
def putM (most : Int) (L : List TM) (id a : Int) : List TM := if ¬ goodT id a then L else if ¬ (id ∈ L.map TM.id) ∧ most ≤ (L.length : Int) then L else insR ⟨id, a⟩ (cutM L id)
/-- what is gathered, and what stands before it -/
def gapR (x : TM) (c : Bool) (D : List TM) : List TM := if c then D else insR x D
theorem own_more {B on oc : Nat} {oa : Option Addr} {xs : List Value} {e : TypeId} {s : Nat} {w0 w5 w8 : World} {ob : Obj} (hb : Below B w0 w5) (hB : B ≤ w5.heap.size) (hO : w5.ownsRow B e s (.slice oa on oc) on xs)
    (hg : (w5.alloc ob).grownBy w8 (Value.slice oa on oc).ownBlock) : Below B w0 w8 :=
  (hb.alloc hB ob).grown hg (by simp; omega) (fun k e => (hO.lt k e).1)
theorem drop_at {L : List TM} {j : Nat} (h : j < L.length) : L.drop j = gT L j :: L.drop (j + 1) := by
  rw [List.drop_eq_getElem_cons h, show gT L j = L[j] by simp [gT, List.getD_eq_getElem?_getD, h]]
theorem po_before {Q : World → (Nat → Prop) → Prop} {w w1 w2 : World} {S : Nat → Prop} (hb : Below w.heap.size w w1) (h : PO Q w1 S w2) : PO Q w S w2 := by
  obtain ⟨S1, q, s, t⟩ := h
  refine ⟨S1, q, fun k hk => ?_, (Turn.of_below hb).trans t⟩
  rcases s k hk with x | x
  · exact Or.inl x
  · exact Or.inr (Nat.le_trans hb.size x)
set_option maxHeartbeats 6400000 in
set_option maxRecDepth 100000 in
theorem rSet_any (b : Nat) (most : Int) (L : List TM) (id a : Int) (S : Nat → Prop) (w : World) (h : RQT b most L w S) (hl : L.length ≤ 24) (hN : (L.map TM.id).Nodup) :
    Calls Try.prog 15 #[.pointer (some ⟨b, 0, none⟩), .int .i64 id, .int .i64 a] w fun e w' => e = .returned (.int .i64 (setV most L id a)) ∧ PO (RQT b most (putM most L id a)) w S w' := by
  obtain ⟨i0, hi, hz0, hz1, hz2⟩ := info_parts one_info
  have HQ := Lib.hid h
  have RF := Lib.hid (show PO (RQT b most L) w S w from ⟨S, h, fun k hk => Or.inl hk, Turn.refl _ _⟩)
  have HND := Lib.hid hN
  have CA := Lib.hid (rAt17_any b most L id S w h hl)
  have CC := Lib.hid (rCancel_any b most L id S w h hl hN)
  obtain ⟨na, nc, h1, h2, h3, h4, h5, h6, h7⟩ := h
  obtain ⟨n, hn⟩ : ∃ n, L.length = n := ⟨_, rfl⟩
  have HN := Lib.hid hn
  rw [hn] at h1 hl
  have g1 := (World.cell?_of_block (w := w) (w' := w.drew) (a := ⟨b, 0, none⟩) rfl).trans h1
  have g2 := (World.cell?_of_block (w := w) (w' := w.drew) (a := ⟨b, 1, none⟩) rfl).trans h2
  clear h3 h4 h5 h6 h7 hn hN
  by_cases hg : ¬ goodT id a
  · have E1 := Lib.hid (show setV most L id a = 2 from by unfold setV; rw [if_pos hg])
    have E2 := Lib.hid (show putM most L id a = L from by unfold putM; rw [if_pos hg])
    by_cases q1 : id < 0
    · have d1 : decide (id < 0) = true := decide_eq_true q1
      clear hg
      go_enter Try.func15, Try.ntmps15
      go_wp2_with fail
      go_ret
      rw [E1.out, E2.out]
      exact ⟨rfl, RF.out⟩
    have d1 : decide (id < 0) = false := decide_eq_false q1
    by_cases q2 : a < 0
    · have d2 : decide (a < 0) = true := decide_eq_true q2
      clear hg
      go_enter Try.func15, Try.ntmps15
      go_wp2_with fail
      go_ret
      rw [E1.out, E2.out]
      exact ⟨rfl, RF.out⟩
    have d2 : decide (a < 0) = false := decide_eq_false q2
    have d3 : decide (a > 1099511627776) = true := decide_eq_true (by unfold goodT at hg; omega)
    have d4 : decide (1099511627776 < a) = true := d3
    clear hg
    go_enter Try.func15, Try.ntmps15
    go_wp2_with fail
    go_ret
    rw [E1.out, E2.out]
    exact ⟨rfl, RF.out⟩
  have d1 : decide (id < 0) = false := decide_eq_false (by unfold goodT at hg; omega)
  have d2 : decide (a < 0) = false := decide_eq_false (by unfold goodT at hg; omega)
  have d3 : decide (a > 1099511627776) = false := decide_eq_false (by unfold goodT at hg; omega)
  have d4 : decide (1099511627776 < a) = false := d3
  have HG := Lib.hid hg
  have AX := Lib.hid (show ∀ v c, AtT L id v c → (c = true ∧ id ∈ L.map TM.id) ∨ (c = false ∧ id ∉ L.map TM.id) from fun v c hA => by
    rcases hA with ⟨x, hx, e1, -, rfl⟩ | ⟨h1, -, rfl⟩
    · exact Or.inl ⟨rfl, by rw [← e1]; exact List.mem_map_of_mem hx⟩
    · exact Or.inr ⟨rfl, fun h => by
        obtain ⟨y, hy, e⟩ := List.mem_map.1 h
        exact h1 y hy e⟩)
  clear hg
  go_enter Try.func15, Try.ntmps15
  go_wp2_with fail
  with_reducible refine CA.out.mono ?_
  rintro e w1 ⟨v, c, rfl, hA, rfl⟩
  by_cases hfull : c = false ∧ most ≤ (n : Int)
  · obtain ⟨rfl, hf⟩ := hfull
    have NI : id ∉ L.map TM.id := by
      rcases AX.out _ _ hA with ⟨h, -⟩ | ⟨-, h⟩
      · cases h
      · exact h
    have E1 := Lib.hid (show setV most L id a = 3 from by unfold setV; rw [if_neg HG.out, if_neg NI, HN.out, if_pos hf])
    have E2 := Lib.hid (show putM most L id a = L from by unfold putM; rw [if_neg HG.out, HN.out, if_pos ⟨NI, hf⟩])
    have d5 : decide ((n : Int) ≥ most) = true := decide_eq_true hf
    have d6 : decide (most ≤ (n : Int)) = true := decide_eq_true hf
    have RD := Lib.hid (fun k => RF.out.more (rqt_ok b most L) (below_drewN w k))
    clear NI hA hf
    go_wp2_with fail
    go_quiet (fail)
    go_wp2_with fail
    go_ret
    rw [E1.out, E2.out]
    exact ⟨rfl, (RD.out _)⟩
  have FUL := Lib.hid (show setV most L id a = 0 ∧ putM most L id a = insR ⟨id, a⟩ (cutM L id) from by
    unfold setV putM
    rw [if_neg HG.out, if_neg HG.out]
    rcases AX.out _ _ hA with ⟨-, h⟩ | ⟨h0, h⟩
    · rw [if_pos h, if_neg (fun e => e.1 h)]; exact ⟨rfl, rfl⟩
    · have h2 : ¬ most ≤ (L.length : Int) := fun e => hfull ⟨h0, by rw [HN.out] at e; exact e⟩
      rw [if_neg h, if_neg h2, if_neg (fun e => h2 e.2)]; exact ⟨rfl, rfl⟩)
  have CF := Lib.hid (show c = true ∨ (c = false ∧ decide (most ≤ (n : Int)) = false ∧ decide ((n : Int) ≥ most) = false) from by
    cases c
    · exact Or.inr ⟨rfl, decide_eq_false (fun e => hfull ⟨rfl, e⟩), decide_eq_false (fun e => hfull ⟨rfl, e⟩)⟩
    · exact Or.inl rfl)
  clear hA hfull AX HG
  have CC2 := Lib.hid (fun k => (rCancel_any b most L id S (w.drewN k) ((rqt_ok b most L).below HQ.out (below_drewN w k)) (by rw [HN.out]; exact hl) HND.out).mono fun e w' h => show e = .returned (.bool (decide (id ∈ L.map TM.id))) ∧ PO (RQT b most (cutM L id)) w S w' from ⟨h.1, po_before (below_drewN w k) h.2⟩)
  obtain ⟨C, hC⟩ : ∃ C, cutM L id = C := ⟨_, rfl⟩
  rw [hC] at CC2 FUL
  obtain ⟨m, hm⟩ : ∃ m, C.length = m := ⟨_, rfl⟩
  have ml : m ≤ 24 := by
    rw [← hm, ← hC]
    have := List.length_filter_le (fun x : TM => decide (x.id ≠ id)) L
    unfold cutM
    have := HN.out; omega
  have HM := Lib.hid hm
  obtain ⟨iv0, hiv0⟩ : ∃ v, decide (id ∈ L.map TM.id) = v := ⟨_, rfl⟩
  rw [hiv0] at CC2
  clear CC CA HQ HND RF hC hiv0 HN hm
  rcases CF.out with rfl | ⟨rfl, d5, d6⟩
  all_goals
    clear CF
    go_wp2_with fail
    go_quiet (fail)
    go_wp2_with fail
    with_reducible refine (CC2.out _).mono ?_
    rintro e w1 ⟨rfl, hPO⟩
    obtain ⟨S1, q1, s1, t1⟩ := hPO
    have P1 := Lib.hid (show RQT b most C w1 S1 ∧ (∀ k, S1 k → S k ∨ w.heap.size ≤ k) ∧ Turn S w w1 from ⟨q1, s1, t1⟩)
    obtain ⟨na, nc, k1, k2, k3, k4, k5, k6, k7⟩ := q1
    rw [HM.out] at k1
    have BO := Lib.hid (below_one w1 (.cells #[.int .i64 id, .int .i64 a] 62))
    have DR := Lib.hid (show ∀ w' : World, Below (w1.alloc (.cells #[.int .i64 id, .int .i64 a] 62)).heap.size (w1.alloc (.cells #[.int .i64 id, .int .i64 a] 62)) w' → w'.cell? ⟨b, 0, none⟩ = some (.slice na m nc) ∧ w'.frozen? ⟨b, 0, none⟩ = false ∧ OwnO w' na nc C ∧ RQT b most C w' S1 ∧ w'.cell? ⟨w1.heap.size, 0, none⟩ = some (.int .i64 id) ∧ w'.cell? ⟨w1.heap.size, 1, none⟩ = some (.int .i64 a) from fun w' hb => by
      have B2 : Below w1.heap.size w1 w' := BO.out.trans (hb.mono (by simp))
      have lb := k7 b k5
      refine ⟨(B2.cell (p := ⟨b, 0, none⟩) lb).trans k1, (B2.frozen (p := ⟨b, 0, none⟩) lb).trans (k3 0), gownsT k4 (fun q hq => B2.block q (k7 q (k6 q hq).1)), (rqt_ok b most C).below P1.out.1 B2, ?_, ?_⟩
      · exact (hb.cell (p := ⟨w1.heap.size, 0, none⟩) (by simp)).trans (by rw [cell_alloc rfl]; rfl)
      · exact (hb.cell (p := ⟨w1.heap.size, 1, none⟩) (by simp)).trans (by rw [cell_alloc rfl]; rfl))
    have F2 := Lib.hid (show PO (RQT b most C) w S (w1.alloc (.cells #[.int .i64 id, .int .i64 a] 62)) from PO.more (rqt_ok b most C) ⟨S1, P1.out⟩ BO.out)
    clear k1 k2 k3 k4 k5 k6 k7 t1 s1 P1
    go_wp2_with fail
    generalize w1.alloc (.cells #[.int .i64 id, .int .i64 a] 62) = w2 at *
    go_loopw [10, 11, 12] (fun ov fv iv wr => ∃ (j : Nat) (O : List TM) (oa : Option Addr) (oc : Nat) (c : Bool), j ≤ m ∧ ov = .slice oa O.length oc ∧ fv = .bool c ∧ iv = .int .i64 j ∧ O.length ≤ j + 1 ∧ Hid (c = false → O.length ≤ j) ∧ Hid (O ++ gapR ⟨id, a⟩ c (C.drop j) = insR ⟨id, a⟩ C) ∧ Hid (wr.ownsRow w2.heap.size 62 2 (.slice oa O.length oc) O.length (tmV O)) ∧ Hid (Below w2.heap.size w2 wr)) (fun _ _ iv _ => m - (intOf iv).toNat)
    case atStart => exact ⟨0, [], none, 0, false, by omega, rfl, rfl, rfl, by simp, Lib.hid (fun _ => Nat.le_refl _), Lib.hid (by simp [gapR]), Lib.hid (World.ownsRow_nil _ _ _ _), Lib.hid (Below.refl _ _)⟩
    case round =>
      obtain ⟨j, O, oa, oc, c, hj, rfl, rfl, rfl, hol, hF, hG, hO, hB⟩ := hrel
      have hsz := hB.out.size
      obtain ⟨r0, r1, own, -, r2, r3⟩ := DR.out wr hB.out
      by_cases hlt : j < m
      · obtain ⟨q, rfl, -, -⟩ := own.at (i := j) (by rw [HM.out]; exact hlt)
        obtain ⟨y, hy⟩ : ∃ y, gT C j = y := ⟨_, rfl⟩
        have DJ := Lib.hid (show C.drop j = y :: C.drop (j + 1) from by rw [← hy]; exact drop_at (by rw [HM.out]; exact hlt))
        have RC := Lib.hid (show ∀ w' : World, Below w2.heap.size w2 w' → w'.cell? ⟨b, 0, none⟩ = some (.slice (some ⟨q, 0, none⟩) m nc) ∧ w'.cell? ⟨q, j * 2, none⟩ = some (.int .i64 y.id) ∧ w'.cell? ⟨q, j * 2 + 1, none⟩ = some (.int .i64 y.at_) ∧ w'.cell? ⟨w1.heap.size, 0, none⟩ = some (.int .i64 id) ∧ w'.cell? ⟨w1.heap.size, 1, none⟩ = some (.int .i64 a) from fun w' hb => by
          obtain ⟨z0, z1, zo, -, z2, z3⟩ := DR.out w' hb
          obtain ⟨q', hq', z4, z5⟩ := zo.at (i := j) (by rw [HM.out]; exact hlt)
          obtain rfl : q = q' := by injection hq' with e; injection e
          rw [hy] at z4 z5
          exact ⟨z0, z4, z5, z2, z3⟩)
        obtain ⟨-, x0, x1, -, -⟩ := RC.out wr hB.out
        have n1 : (0 : Int) ≤ (j : Int) := by omega
        have n2 : (j : Int) < (m : Int) := by omega
        clear hy own hlt
        cases c with
        | true =>
          have GAP := Lib.hid (show (O ++ [y]) ++ gapR ⟨id, a⟩ true (C.drop (j + 1)) = insR ⟨id, a⟩ C from by
            rw [← hG.out, DJ.out]; simp [gapR])
          go_wp2_with (at_builtin; refine wpList_append_lies _ rfl (.tmp 100) (.tmp 108) 43 rfl w2.heap.size 62 i0 _ 2 16 Try.underlying43 hi hz0 hz1 hz2 rfl (by omega) (.slice oa O.length oc) O.length (tmV O) (by rfl) (hO.out.alloc _) ⟨wr.heap.size, 0, none⟩ 1 1 [.int .i64 y.id, .int .i64 y.at_] (by rfl) (by rfl) (World.news_of_block (cs := #[.int .i64 y.id, .int .i64 y.at_]) (t := 62) (fr := (0, 0)) (heap_alloc_new wr _)) (by simp [Value.oneCell']) (by omega) (by unfold maxLen; omega) (by omega) (by simp; omega) (wr.heap.size + 1) (by simp) ?_; intro g4 c4 w4 hown4 hgrow4 hat4 hlt4)
          have O4 := Lib.hid (show w4.ownsRow w2.heap.size 62 2 (.slice (some ⟨g4, 0, none⟩) (O.length + 1) c4) (O.length + 1) (tmV (O ++ [y])) from by rw [tmV_app]; exact hown4)
          have B4 := Lib.hid (own_more hB.out hsz hO.out hgrow4)
          clear hown4 hgrow4 hat4 hlt4
          go_roundw
          case rel => exact ⟨j + 1, O ++ [y], some ⟨g4, 0, none⟩, c4, true, by omega, by simp, rfl, by go_num, by simp; omega, Lib.hid (fun e => by cases e), GAP, by rw [List.length_append]; exact O4, B4⟩
          case measure => simp [intOf] <;> omega
        | false =>
          have hol2 := hF.out rfl
          by_cases hles : lessT ⟨id, a⟩ y
          · have GAP := Lib.hid (show (O ++ [⟨id, a⟩] ++ [y]) ++ gapR ⟨id, a⟩ true (C.drop (j + 1)) = insR ⟨id, a⟩ C from by
              rw [← hG.out, DJ.out]; simp [gapR, insR, hles])
            have CS : (decide (y.at_ > a) = true ∧ decide (a < y.at_) = true ∧ True ∧ True ∧ True) ∨ (decide (y.at_ > a) = false ∧ decide (a < y.at_) = false ∧ (y.at_ == a) = true ∧ decide (y.id > id) = true ∧ decide (id < y.id) = true) := by
              rcases hles with h | ⟨h, h'⟩
              · exact Or.inl ⟨decide_eq_true h, decide_eq_true h, trivial, trivial, trivial⟩
              · simp only at h h'
                exact Or.inr ⟨decide_eq_false (by omega), decide_eq_false (by omega), by simpa using h.symm, decide_eq_true h', decide_eq_true h'⟩
            clear hles
            rcases CS with ⟨v0, v1, v2, v3, v4⟩ | ⟨v0, v1, v2, v3, v4⟩
            all_goals
              go_wp2_with (first | (at_builtin; refine wpList_append_lies _ rfl (.tmp 100) (.tmp 108) 43 rfl w2.heap.size 62 i0 _ 2 16 Try.underlying43 hi hz0 hz1 hz2 rfl (by omega) (.slice (some ⟨g3, 0, none⟩) (O.length + 1) c3) (O.length + 1) (tmV O ++ [.int .i64 id, .int .i64 a]) (by rfl) (hown3.alloc _) ⟨w3.heap.size, 0, none⟩ 1 1 [.int .i64 y.id, .int .i64 y.at_] (by rfl) (by rfl) (World.news_of_block (cs := #[.int .i64 y.id, .int .i64 y.at_]) (t := 62) (fr := (0, 0)) (heap_alloc_new w3 _)) (by simp [Value.oneCell']) (by omega) (by unfold maxLen; omega) (by omega) (by simp; omega) (w3.heap.size + 1) (by simp) ?_; intro g4 c4 w4 hown4 hgrow4 hat4 hlt4) | (at_builtin; refine wpList_append_lies _ rfl (.tmp 96) (.tmp 98) 43 rfl w2.heap.size 62 i0 _ 2 16 Try.underlying43 hi hz0 hz1 hz2 rfl (by omega) (.slice oa O.length oc) O.length (tmV O) (by rfl) (hO.out.alloc _) ⟨wr.heap.size, 0, none⟩ 1 1 [.int .i64 id, .int .i64 a] (by rfl) (by rfl) (World.news_of_block (cs := #[.int .i64 id, .int .i64 a]) (t := 62) (fr := (0, 0)) (heap_alloc_new wr _)) (by simp [Value.oneCell']) (by omega) (by unfold maxLen; omega) (by omega) (by simp; omega) (wr.heap.size + 1) (by simp) ?_; intro g3 c3 w3 hown3 hgrow3 hat3 hlt3; have B3 := Lib.hid (own_more hB.out hsz hO.out hgrow3); obtain ⟨y0, y1, y2, y3, y4⟩ := RC.out w3 B3.out; have s3 := B3.out.size))
              have O4 := Lib.hid (show w4.ownsRow w2.heap.size 62 2 (.slice (some ⟨g4, 0, none⟩) (O.length + 1 + 1) c4) (O.length + 1 + 1) (tmV (O ++ [⟨id, a⟩] ++ [y])) from by rw [tmV_app, tmV_app]; exact hown4)
              have B4 := Lib.hid (own_more B3.out (by have := B3.out.size; omega) hown3 hgrow4)
              clear hown4 hgrow4 hat4 hlt4 hown3 hgrow3 hat3 hlt3
              go_roundw
              case rel => exact ⟨j + 1, O ++ [⟨id, a⟩] ++ [y], some ⟨g4, 0, none⟩, c4, true, by omega, by simp, rfl, by go_num, by simp; omega, Lib.hid (fun e => by cases e), GAP, by rw [List.length_append, List.length_append]; exact O4, B4⟩
              case measure => simp [intOf] <;> omega
          · have GAP := Lib.hid (show (O ++ [y]) ++ gapR ⟨id, a⟩ false (C.drop (j + 1)) = insR ⟨id, a⟩ C from by
              rw [← hG.out, DJ.out]; simp [gapR, insR, hles])
            have CS : (decide (y.at_ > a) = false ∧ decide (a < y.at_) = false ∧ (y.at_ == a) = false ∧ True ∧ True) ∨ (decide (y.at_ > a) = false ∧ decide (a < y.at_) = false ∧ (y.at_ == a) = true ∧ decide (y.id > id) = false ∧ decide (id < y.id) = false) := by
              unfold lessT at hles
              simp only at hles
              by_cases h : y.at_ = a
              · exact Or.inr ⟨decide_eq_false (by omega), decide_eq_false (by omega), by simpa using h, decide_eq_false (by omega), decide_eq_false (by omega)⟩
              · exact Or.inl ⟨decide_eq_false (by omega), decide_eq_false (by omega), by simpa using h, trivial, trivial⟩
            clear hles
            rcases CS with ⟨v0, v1, v2, v3, v4⟩ | ⟨v0, v1, v2, v3, v4⟩
            all_goals
              go_wp2_with (at_builtin; refine wpList_append_lies _ rfl (.tmp 100) (.tmp 108) 43 rfl w2.heap.size 62 i0 _ 2 16 Try.underlying43 hi hz0 hz1 hz2 rfl (by omega) (.slice oa O.length oc) O.length (tmV O) (by rfl) (hO.out.alloc _) ⟨wr.heap.size, 0, none⟩ 1 1 [.int .i64 y.id, .int .i64 y.at_] (by rfl) (by rfl) (World.news_of_block (cs := #[.int .i64 y.id, .int .i64 y.at_]) (t := 62) (fr := (0, 0)) (heap_alloc_new wr _)) (by simp [Value.oneCell']) (by omega) (by unfold maxLen; omega) (by omega) (by simp; omega) (wr.heap.size + 1) (by simp) ?_; intro g4 c4 w4 hown4 hgrow4 hat4 hlt4)
              have O4 := Lib.hid (show w4.ownsRow w2.heap.size 62 2 (.slice (some ⟨g4, 0, none⟩) (O.length + 1) c4) (O.length + 1) (tmV (O ++ [y])) from by rw [tmV_app]; exact hown4)
              have B4 := Lib.hid (own_more hB.out hsz hO.out hgrow4)
              clear hown4 hgrow4 hat4 hlt4
              go_roundw
              case rel => exact ⟨j + 1, O ++ [y], some ⟨g4, 0, none⟩, c4, false, by omega, by simp, rfl, by go_num, by simp; omega, Lib.hid (fun _ => by have := hF.out rfl; simp; omega), GAP, by rw [List.length_append]; exact O4, B4⟩
              case measure => simp [intOf] <;> omega
      · obtain rfl : j = m := by omega
        have RD2 := Lib.hid (show ∀ w' : World, Below w2.heap.size w2 w' → w'.cell? ⟨b, 0, none⟩ = some (.slice na j nc) ∧ w'.frozen? ⟨b, 0, none⟩ = false from fun w' hb => by
          obtain ⟨z0, z1, -⟩ := DR.out w' hb
          exact ⟨z0, z1⟩)
        have FIN := Lib.hid (show ∀ (w' : World) (M : List TM) q c', M = insR ⟨id, a⟩ C → Below w2.heap.size w2 w' → w'.ownsRow w2.heap.size 62 2 (.slice q M.length c') M.length (tmV M) → PO (RQT b most (insR ⟨id, a⟩ C)) w S (w'.setCell ⟨b, 0, none⟩ (.slice q M.length c')) from fun w' M q c' e hb ho => by
          subst e
          exact po_seq F2.out fun S1 q1 => rqt_renew q1 hb ho)
        have DN : C.drop j = [] := List.drop_of_length_le (by rw [HM.out]; omega)
        clear own hlt
        cases c with
        | true =>
          have GAP := Lib.hid (show O = insR ⟨id, a⟩ C from by
            rw [← hG.out, DN]; simp [gapR])
          clear DN
          go_wp2_with fail
          go_ret
          rw [FUL.out.1, FUL.out.2]
          exact ⟨rfl, FIN.out wr O oa oc GAP.out hB.out hO.out⟩
        | false =>
          have GAP := Lib.hid (show O ++ [⟨id, a⟩] = insR ⟨id, a⟩ C from by
            rw [← hG.out, DN]; simp [gapR, insR])
          clear DN
          go_wp2_with (at_builtin; refine wpList_append_lies _ rfl (.tmp 112) (.tmp 114) 43 rfl w2.heap.size 62 i0 _ 2 16 Try.underlying43 hi hz0 hz1 hz2 rfl (by omega) (.slice oa O.length oc) O.length (tmV O) (by rfl) (hO.out.alloc _) ⟨wr.heap.size, 0, none⟩ 1 1 [.int .i64 id, .int .i64 a] (by rfl) (by rfl) (World.news_of_block (cs := #[.int .i64 id, .int .i64 a]) (t := 62) (fr := (0, 0)) (heap_alloc_new wr _)) (by simp [Value.oneCell']) (by omega) (by unfold maxLen; omega) (by omega) (by simp; omega) (wr.heap.size + 1) (by simp) ?_; intro g4 c4 w4 hown4 hgrow4 hat4 hlt4; have B4 := Lib.hid (own_more hB.out hsz hO.out hgrow4); obtain ⟨y0, y1⟩ := RD2.out w4 B4.out)
          have O4 := Lib.hid (show w4.ownsRow w2.heap.size 62 2 (.slice (some ⟨g4, 0, none⟩) (O.length + 1) c4) (O.length + 1) (tmV (O ++ [⟨id, a⟩])) from by rw [tmV_app]; exact hown4)
          have F4 := Lib.hid (show PO (RQT b most (insR ⟨id, a⟩ C)) w S (w4.setCell ⟨b, 0, none⟩ (.slice (some ⟨g4, 0, none⟩) (O.length + 1) c4)) from by
            have h1 := FIN.out w4 (O ++ [⟨id, a⟩]) (some ⟨g4, 0, none⟩) c4 GAP.out B4.out (by rw [List.length_append]; exact O4.out)
            rw [List.length_append] at h1
            exact h1)
          clear hown4 hgrow4 hat4 hlt4
          go_ret
          rw [FUL.out.1, FUL.out.2]
          exact ⟨rfl, F4.out⟩
end Go.Proofs.Ytodoflmgnljahaa
