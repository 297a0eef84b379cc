/- timers: both sets alike, act by act; the acts of an argument, opened -/
import Derived.Test.YtodoflmgnljahaaQRu3
import Derived.Test.YtodoflmgnljahaaPkA
import Derived.Test.YtodoflmgnljahaaPkB
import Derived.Test.YtodoflmgnljahaaPkD
import Derived.Test.YtodoflmgnljahaaQOverInts
import Derived.Deep.CutBlock
namespace Go.Proofs.Ytodoflmgnljahaa
open Go.RowKit
set_option linter.unusedVariables false
set_option maxRecDepth 20000
def GoodL (L : List TM) : Prop := L.Pairwise leT ∧ (L.map TM.id).Nodup ∧ L.length ≤ 24
theorem goodL_nil : GoodL [] := ⟨List.Pairwise.nil, List.nodup_nil, by simp⟩
theorem goodL_cut {L : List TM} (h : GoodL L) (id : Int) : GoodL (cutM L id) :=
  ⟨h.1.sublist List.filter_sublist, cut_sub L id h.2.1, Nat.le_trans (List.length_filter_le _ _) h.2.2⟩
theorem goodL_put {L : List TM} (h : GoodL L) (most id a : Int) (hm : most ≤ 24) : GoodL (putM most L id a) := by
  unfold putM
  split
  · exact h
  split
  · exact h
  rename_i hf
  have hc := goodL_cut h id
  refine ⟨insR_sorted hc.1, ?_, ?_⟩
  · refine ((insR_perm ⟨id, a⟩ (cutM L id)).map TM.id).nodup_iff.2 ?_
    rw [List.map_cons]
    exact List.nodup_cons.2 ⟨cut_gone, hc.2.1⟩
  · rw [(insR_perm ⟨id, a⟩ (cutM L id)).length_eq, List.length_cons]
    by_cases hi : id ∈ L.map TM.id
    · have := cut_len h.2.1 hi; have := h.2.2; omega
    · have h1 : ¬ most ≤ (L.length : Int) := fun e => hf ⟨hi, e⟩
      rw [cut_not hi]; omega
theorem set_put {L : List TM} (hn : (L.map TM.id).Nodup) (most id a : Int) : (setM most L id a).Perm (putM most L id a) := by
  unfold setM putM
  by_cases hg : ¬ goodT id a
  · rw [if_pos hg, if_pos hg]
  rw [if_neg hg, if_neg hg]
  by_cases hi : id ∈ L.map TM.id
  · rw [if_pos hi, if_neg (fun e => e.1 hi)]
    obtain ⟨y, hy, e⟩ := List.mem_map.1 hi
    obtain ⟨i, hlt, rfl⟩ := List.getElem_of_mem hy
    have e2 : (gT L i).id = id := by rw [show gT L i = L[i] by simp [gT, List.getD_eq_getElem?_getD, hlt]]; exact e
    rw [← upd_set hn hlt e2, ← cut_at hn hlt e2]
    refine List.Perm.trans ?_ (insR_perm _ _).symm
    rw [List.set_eq_take_append_cons_drop, if_pos hlt]
    exact List.perm_middle
  · rw [if_neg hi]
    by_cases hf : most ≤ (L.length : Int)
    · rw [if_pos hf, if_pos ⟨hi, hf⟩]
    · rw [if_neg hf, if_neg (fun e => hf e.2), cut_not hi]
      exact List.perm_append_comm.trans (insR_perm _ _).symm
theorem at_same {L : List TM} (hn : (L.map TM.id).Nodup) {id v1 v2 : Int} {c1 c2 : Bool} (h1 : AtT L id v1 c1) (h2 : AtT L id v2 c2) : v1 = v2 ∧ c1 = c2 := by
  rcases h1 with ⟨x, hx, e, e1, e2⟩ | ⟨hno, e1, e2⟩
  · subst e
    obtain ⟨e3, e4⟩ := at_one hn hx h2
    rw [e1, e2, e3, e4]; exact ⟨rfl, rfl⟩
  · rcases h2 with ⟨x, hx, e, -, -⟩ | ⟨-, e3, e4⟩
    · exact absurd e (hno x hx)
    · rw [e1, e2, e3, e4]; exact ⟨rfl, rfl⟩
abbrev Duo (w0 w : World) (b c : Nat) (most : Int) (L : List TM) (S1 S2 : Nat → Prop) : Prop := TwoO (TQ b most L) (RQT c most L) w0 w S1 S2
def Dup (w0 w : World) (b c : Nat) (most : Int) (L : List TM) : Prop := ∃ S1 S2, Duo w0 w b c most L S1 S2
theorem Dup.bel {w0 w : World} {b c : Nat} {most : Int} {L : List TM} (h : Dup w0 w b c most L) : Below w0.heap.size w0 w := by obtain ⟨_, _, h⟩ := h; exact h.b
theorem Dup.more {w0 w w' : World} {b c : Nat} {most : Int} {L : List TM} (h : Dup w0 w b c most L) (hb : Below w.heap.size w w') : Dup w0 w' b c most L := by
  obtain ⟨S1, S2, h⟩ := h
  exact ⟨S1, S2, TwoO.more (tq_ok _ _ _) (rqt_ok _ _ _) h hb⟩
theorem duo_q2 {w0 w w' : World} {b c : Nat} {most : Int} {L L2 : List TM} {S1 S2 : Nat → Prop} (h : Duo w0 w b c most L S1 S2) (k : PO (RQT c most L2) w S2 w') : TQ b most L w' S1 := (tq_ok _ _ _).turn h.q k.turn h.d
theorem duo_r2 {w0 w w' : World} {b c : Nat} {most : Int} {L L2 : List TM} {S1 S2 : Nat → Prop} (h : Duo w0 w b c most L S1 S2) (k : PO (TQ b most L2) w S1 w') : RQT c most L w' S2 := (rqt_ok _ _ _).turn h.r k.turn (fun k h2 h1 => h.d k h1 h2)
theorem duo_qr {w0 w w1 w2 : World} {b c : Nat} {most : Int} {L L2 : List TM} {S1 S2 : Nat → Prop} (h : Duo w0 w b c most L S1 S2) (k1 : PO (TQ b most L2) w S1 w1) (k2 : PO (RQT c most L2) w1 S2 w2) : Dup w0 w2 b c most L2 := by
  obtain ⟨T, c1, _⟩ := h.left (tq_ok _ _ _) (rqt_ok _ _ _) k1
  obtain ⟨T2, c2, _⟩ := c1.right (tq_ok _ _ _) (rqt_ok _ _ _) k2
  exact ⟨T, T2, c2⟩
theorem duo_rq {w0 w w1 w2 : World} {b c : Nat} {most : Int} {L L2 : List TM} {S1 S2 : Nat → Prop} (h : Duo w0 w b c most L S1 S2) (k1 : PO (RQT c most L2) w S2 w1) (k2 : PO (TQ b most L2) w1 S1 w2) : Dup w0 w2 b c most L2 := by
  obtain ⟨T, c1, _⟩ := h.right (tq_ok _ _ _) (rqt_ok _ _ _) k1
  obtain ⟨T2, c2, _⟩ := c1.left (tq_ok _ _ _) (rqt_ok _ _ _) k2
  exact ⟨T2, T, c2⟩
theorem po_cellT {Q : World → (Nat → Prop) → Prop} {w w' : World} {S : Nat → Prop} {p o : Nat} {v : Value} (h : w.cell? ⟨p, o, none⟩ = some v) (k : PO Q w S w') (hn : ¬ S p) : w'.cell? ⟨p, o, none⟩ = some v := cellT h k.turn hn
theorem cutQ (id : Int) (z : Bool) (L' : List TM) (b : Nat) {most : Int} {L : List TM} {S : Nat → Prop} (w : World) (h : TQ b most L w S) (hz : decide (id ∈ L.map TM.id) = z) (hL : cutM L id = L') :
    Calls Try.prog 12 #[.pointer (some ⟨b, 0, none⟩), .int .i64 id] w fun e w' => e = .returned (.bool z) ∧ PO (TQ b most L') w S w' := by
  subst hz hL; exact tCancel_any b most L id S w h
theorem cutR (id : Int) (z : Bool) (L' : List TM) (b : Nat) {most : Int} {L : List TM} {S : Nat → Prop} (w : World) (h : RQT b most L w S) (hg : GoodL L) (hz : decide (id ∈ L.map TM.id) = z) (hL : cutM L id = L') :
    Calls Try.prog 13 #[.pointer (some ⟨b, 0, none⟩), .int .i64 id] w fun e w' => e = .returned (.bool z) ∧ PO (RQT b most L') w S w' := by
  subst hz hL; exact rCancel_any b most L id S w h hg.2.2 hg.2.1
theorem setQ (id a z : Int) (L' : List TM) (b : Nat) {most : Int} {L : List TM} {S : Nat → Prop} (w : World) (h : TQ b most L w S) (hm : most ≤ 24) (hg : GoodL L) (hz : setV most L id a = z) (hL : putM most L id a = L') :
    Calls Try.prog 14 #[.pointer (some ⟨b, 0, none⟩), .int .i64 id, .int .i64 a] w fun e w' => e = .returned (.int .i64 z) ∧ PO (TQ b most L') w S w' := by
  subst hz hL
  exact (tSet_any b most L id a S w h hm).mono fun e w' ⟨h1, S', q, s, t⟩ => ⟨h1, S', q.perm (set_put hg.2.1 most id a), s, t⟩
theorem setR (id a z : Int) (L' : List TM) (b : Nat) {most : Int} {L : List TM} {S : Nat → Prop} (w : World) (h : RQT b most L w S) (hg : GoodL L) (hz : setV most L id a = z) (hL : putM most L id a = L') :
    Calls Try.prog 15 #[.pointer (some ⟨b, 0, none⟩), .int .i64 id, .int .i64 a] w fun e w' => e = .returned (.int .i64 z) ∧ PO (RQT b most L') w S w' := by
  subst hz hL; exact rSet_any b most L id a S w h hg.2.2 hg.2.1
theorem num17_any (v : Int) (w : World) : Calls Try.prog 11 #[.int .i64 v] w fun e w' => e = .returned (.int .i64 v) ∧ w = w' := by
  go_enter Try.func11, Try.ntmps11
  go_wp2_with fail
  go_ret
  exact ⟨rfl, rfl⟩
structure TAct where
  c : Bool
  id : Int
  a : Int
def tactCells (x : TAct) : List Value := [.bool x.c, .int .i64 x.id, .int .i64 x.a]
def HoldsTA (w : World) (a : Option Addr) (n : Nat) (xs : Nat → TAct) : Prop :=
  0 < n → ∃ b o, a = some ⟨b, o, none⟩ ∧ ∀ i, i < n → w.cell? ⟨b, o + i * 3, none⟩ = some (.bool (xs i).c) ∧ w.cell? ⟨b, o + i * 3 + 1, none⟩ = some (.int .i64 (xs i).id) ∧ w.cell? ⟨b, o + i * 3 + 2, none⟩ = some (.int .i64 (xs i).a)
theorem HoldsTA.below {w w' : World} {a : Option Addr} {n : Nat} {xs : Nat → TAct} (h : HoldsTA w a n xs) (hb : Below w.heap.size w w') : HoldsTA w' a n xs := fun h0 => by
  obtain ⟨b, o, ha, hc⟩ := h h0
  have hlt := lt_of_cell (hc 0 h0).1
  refine ⟨b, o, ha, fun i hi => ?_⟩
  rw [hb.cell (p := ⟨b, o + i * 3, none⟩) hlt, hb.cell (p := ⟨b, o + i * 3 + 1, none⟩) hlt, hb.cell (p := ⟨b, o + i * 3 + 2, none⟩) hlt]
  exact hc i hi
theorem cells_tact : Try.prog.cellsOf 33 = 3 := by kernel_rfl
open Go.ChangeShapes Go.WideShapes Go.ChangeAt in
theorem tact_of {H : Type} {enc : TypeId × Value → H} {w : World} {base : Nat} {spare : Nat → Bool} {held : Bool} {fuel : Nat} {cs : List Value} {x : DataW H × List MemPlace}
    (h : DataW.trod enc Try.prog w base spare held fuel 33 cs = some x) : ∃ x : TAct, cs = tactCells x := by
  obtain ⟨hl, n, hf⟩ := struct_cells Try.underlying33 h
  rw [cells_tact] at hl
  obtain ⟨c0, c1, c2, rfl⟩ := list3 hl
  obtain ⟨y0, z0⟩ := hf 0 _ rfl
  obtain ⟨y1, z1⟩ := hf 1 _ rfl
  obtain ⟨y2, z2⟩ := hf 2 _ rfl
  obtain ⟨s, hs, _⟩ := DataW.trod_bool Try.underlying4 z0
  obtain ⟨k1, h1, _, b1⟩ := DataW.trod_int Try.underlying3 z1
  obtain ⟨k2, h2, _, b2⟩ := DataW.trod_int Try.underlying3 z2
  simp [cellsT_int, cellsT_bool] at hs h1 h2
  subst hs h1 h2
  exact ⟨⟨s, k1, k2⟩, rfl⟩
open Go.ChangeShapes Go.WideShapes Go.ChangeAt in
theorem open_tacts_arg {H : Type} {enc : TypeId × Value → H} {W : World} {base : Nat} {v : Value} {d : DataW H} {p : List MemPlace}
    (o : Value.okWide Try.prog W .any base 22 v) (h : DataW.Trod enc Try.prog W 0 (fun _ => true) true 22 v d p) :
    ∃ a n cap xs, v = .slice a n cap ∧ HoldsTA W a n xs ∧ n ≤ maxLen := by
  obtain ⟨a, n, cap, R, rfl, _, h1, h2, hg, hc⟩ := open_rows_arg Try.underlying22 cells_tact (by omega) (fun cs => ∃ x : TAct, cs = tactCells x) (fun _ _ _ h => tact_of h) o h
  have hx : ∀ i, ∃ x : TAct, i < n → R i = tactCells x := fun i => by
    by_cases hi : i < n
    · obtain ⟨x, h3⟩ := hg i hi
      exact ⟨x, fun _ => h3⟩
    · exact ⟨⟨true, 0, 0⟩, fun h => absurd h hi⟩
  refine ⟨a, n, cap, fun i => (hx i).choose, rfl, fun h0 => ?_, Nat.le_trans h1 h2⟩
  obtain ⟨b, o, ha, hcell⟩ := hc h0
  refine ⟨b, o, ha, fun i hi => ?_⟩
  have e := (hx i).choose_spec hi
  have c0 := hcell i hi 0 (by omega)
  have c1 := hcell i hi 1 (by omega)
  have c2 := hcell i hi 2 (by omega)
  rw [e] at c0 c1 c2
  exact ⟨c0, c1, c2⟩
end Go.Proofs.Ytodoflmgnljahaa
