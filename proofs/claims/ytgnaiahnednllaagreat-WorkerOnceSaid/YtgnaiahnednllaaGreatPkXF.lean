/- texts joined -/
import Derived.WalkKit
import Derived.ProofKit
import Derived.OpenShut
import Derived.Lib.SmallJoins
import Derived.Lib.Hide
import Derived.Test.YtgnaiahnednllaaGreatChecked
import Derived.Maps.OwnSet
import Derived.WalkArith
import Derived.Carry
import Derived.OwnWalk
import Derived.Laws.AppendOwnNone
import Derived.Lib.SliceRun
import Derived.Deep.RegionLaw
import Derived.Outline
import Derived.WalkLawsBesides
import Derived.WalkSpells
import Derived.Deep.QuietTactic
import Derived.BigQuiet
import Derived.Deep.DeepCutAuto
import Derived.Deep.RegionHeld3
import Derived.Deep.AppendLies
import Derived.Laws.ResultCell
import Derived.Laws.BitsAllLaws
import Derived.Laws.DeepBits32
import Derived.Sort.Walk0
import Derived.Laws.RangeAny
import Derived.Lib.DecodeN
import Derived.Lib.OthersKept
import Derived.Deep.Slices
import Derived.SliceStrings
import Derived.Deep.RegionWith
import Derived.Laws.AppendOwn
import Derived.StringKeys
import Derived.Laws.OwnMore
import Derived.DeepKeys4
import Derived.Lib.AppendStr
import Derived.Lib.Strings
import Derived.Lib.ConvBytes
import Derived.Laws.BytesArg
import Derived.Lib.SlBytesRow
import Derived.Shelf.Strings.Builder1
import Derived.Shelf.Strings.BuilderK
import Derived.Shelf.Strings.BuilderRune
import Derived.Shelf.Utf8.AppendRune
import Derived.Lib.RuneBytes
import Derived.BigRegion
import Derived.Deep.CutRange
import Derived.Deep.CutBlock
import Derived.RangeFuncNested
import Derived.RangeFuncBound
import Derived.RangeFuncCalls
import Derived.RangeFuncLeaves
import Derived.RangeFuncBox
import Derived.Shelf.Abstract
import Derived.Shelf.RegionOpen
import Derived.OwnWalkIn
import Derived.TacticsInMore
import Derived.LoopNIn
import Derived.LoopIn
import Derived.Deep.LoopGhost
import Derived.Sort.Grow
import Derived.Shelf.SlSortCmp.NoneTotal
import Derived.Ground.SlsfProg
import Derived.Sort.OwnSorted
import Derived.Laws.Rows
import Derived.Test.YtgnaiahnednllaaGreatPkXE
namespace Go.Proofs.YtgnaiahnednllaaGreat
open Go.RowKit
set_option linter.unusedVariables false
set_option maxRecDepth 20000
theorem dborn_o (d : Nat) {f : Int → Option DI} {life : Nat} {S : Nat → Prop} (l1 : Nat) (w : World) (h : DO d f life w S) (hl : life < 1000000) (h1 : life + 1 = l1) :
    Calls Tryz.prog 88 #[.pointer (some ⟨d, 0, none⟩)] w fun e w' => e = .returned (.int .i64 (l1 : Int)) ∧ DO d f l1 w' S ∧ Turn (fun k => k = d) w w' := by
  obtain ⟨M, n, hD, s1, s2, s3, s4⟩ := h
  have c1 := hD.c1
  have f1 := hD.fz 1
  have hB := hD.born
  rw [h1] at hB
  have H := Lib.hid (show DO d f l1 (w.setCell ⟨d, 1, none⟩ (.int .i64 (l1 : Int))) S from ⟨M, n, hB, s1, s2, s3, fun k hk => by simpa using s4 k hk⟩)
  have T := Lib.hid (show Turn (fun k => k = d) w (w.setCell ⟨d, 1, none⟩ (.int .i64 (l1 : Int))) from Turn.setCell rfl)
  have e1 : (life : Int) + 1 = (l1 : Int) := by omega
  clear hD hB s1 s2 s3 s4 h1
  go_enter Tryz.func88, Tryz.ntmps88
  go_wp2_with fail
  go_ret
  exact ⟨rfl, H.out, T.out⟩
/-- a worker's box, its disk, its queue, its shards, while it begins -/
structure Beg (w0 : World) (b d q mm nm : Nat) (id : Int) (f : Int → Option DI) (l1 : Nat) (sh : Int → Option LD) (SD SQ SL : Nat → Prop) (w : World) : Prop where
  box : WBox w b d id true (l1 : Int) 0 (some q) (some mm)
  D : DO d f l1 w SD
  Q : QAt w q [] SQ
  L : LOn mm nm sh w SL
  bD : ¬ SD b
  nQ : ∀ k, SQ k → w0.heap.size ≤ k
  nL : ∀ k, SL k → w0.heap.size ≤ k
  ql : ∀ k, SQ k → ¬ SL k
  b0 : b < w0.heap.size
  d0 : ∀ k, SD k → k < w0.heap.size
  t : Turn (fun k => k = d ∨ k = b) w0 w
theorem Beg.below {w0 : World} {b d q mm nm : Nat} {id : Int} {f : Int → Option DI} {l1 : Nat} {sh : Int → Option LD} {SD SQ SL : Nat → Prop} {w w' : World} (h : Beg w0 b d q mm nm id f l1 sh SD SQ SL w) (hb : Below w.heap.size w w') : Beg w0 b d q mm nm id f l1 sh SD SQ SL w' :=
  ⟨h.box.below hb, (do_ok _ _ _).below h.D hb, h.Q.below hb, (lon_ok _ _ _).below h.L hb, h.bD, h.nQ, h.nL, h.ql, h.b0, h.d0, h.t.trans (Turn.of_below hb)⟩
theorem Beg.put {w0 : World} {b d q mm nm n' : Nat} {id : Int} {f : Int → Option DI} {l1 : Nat} {sh : Int → Option LD} {SD SQ SL Sg : Nat → Prop} {w w' : World} {x : Int} {l : LD} (h : Beg w0 b d q mm nm id f l1 sh SD SQ SL w) (m : MapV w' mm n' (vset (lV sh) x (some (ldV l)))) (t : Turn (fun k => k = mm) w w')
    (hS : ∀ k, Sg k → k < w.heap.size ∧ ¬ SQ k ∧ w0.heap.size ≤ k ∧ k ≠ mm) (hg : ∀ g, l.g = some g → goodV l.ts = 0 ∧ GAt g (grS l.ts) w Sg) : Beg w0 b d q mm n' id f l1 (lput sh x l) SD SQ (fun k => SL k ∨ Sg k) w' := by
  have sm := h.L.2.1
  have hm := h.nL _ sm
  have nb : b ≠ mm := fun e => by have := h.b0; omega
  refine ⟨h.box.turn t nb, (do_ok _ _ _).turn h.D t (fun k hk e => by have := h.d0 k hk; omega), h.Q.turn t (fun k hk e => h.ql k hk (by rw [e]; exact sm)), lon_put h.L m t (fun k hk => Or.inl hk) (fun k hk => ?_) (fun g e => ?_), h.bD, h.nQ, fun k hk => ?_, fun k hk hk2 => ?_, h.b0, h.d0, h.t.trans' t (fun i e => Or.inr (by omega))⟩
  · rcases hk with hk | hk
    · exact Nat.lt_of_lt_of_le (h.L.2.2.2 k hk) t.size
    · exact Nat.lt_of_lt_of_le (hS k hk).1 t.size
  · obtain ⟨hv, G⟩ := hg g e
    exact ⟨hv, Sg, (gAt_ok g _).turn G t (fun k hk => (hS k hk).2.2.2), fun k hk => ⟨Or.inr hk, (hS k hk).2.2.2⟩⟩
  · rcases hk with hk | hk
    · exact h.nL k hk
    · exact (hS k hk).2.2.1
  · rcases hk2 with hk2 | hk2
    · exact h.ql k hk hk2
    · exact (hS k hk2).2.1 hk
/-- it has begun -/
def StartP (w : World) (b d : Nat) (id : Int) (f : Int → Option DI) (l1 : Nat) (SD : Nat → Prop) (e : Ending) (w' : World) : Prop :=
  e = .returned (.tuple #[]) ∧ ∃ sh S', LoadR f sh 6 ∧ WkO b d ⟨id, f, l1, true, (l1 : Int), 0, [], sh⟩ w' S' ∧ (∀ k, S' k → (SD k ∨ k = b) ∨ w.heap.size ≤ k) ∧ Turn (fun k => SD k ∨ k = b) w w'
theorem Beg.done {w0 : World} {b d q mm nm : Nat} {id : Int} {f : Int → Option DI} {l1 : Nat} {sh : Int → Option LD} {SD SQ SL : Nat → Prop} {w : World} (h : Beg w0 b d q mm nm id f l1 sh SD SQ SL w) (hn : nm ≤ 100) (hsd : SD d) (hr : LoadR f sh 6) : StartP w0 b d id f l1 SD (.returned (.tuple #[])) w := by
  refine ⟨rfl, sh, fun k => k = b ∨ SD k ∨ SQ k ∨ SL k, hr, ⟨some q, some mm, SD, SQ, SL, ⟨h.box, h.D, fun _ => ⟨q, rfl, h.Q⟩, fun _ => ⟨mm, rfl, nm, hn, h.L⟩, fun e => (by cases e), h.bD, fun e => ?_, fun e => ?_, fun k h1 h2 => ?_, fun k h1 h2 => ?_, h.ql⟩, Or.inl rfl, fun k hk => Or.inr (Or.inl hk), fun k hk => Or.inr (Or.inr (Or.inl hk)), fun k hk => Or.inr (Or.inr (Or.inr hk)), fun k hk => ?_⟩, fun k hk => ?_, h.t.mono (fun k hk => ?_)⟩
  · have := h.nQ b e; have := h.b0; omega
  · have := h.nL b e; have := h.b0; omega
  · have := h.nQ k h2; have := h.d0 k h1; omega
  · have := h.nL k h2; have := h.d0 k h1; omega
  · rcases hk with rfl | hk | hk | hk
    · exact h.box.lt
    · exact (do_ok _ _ _).lt h.D k hk
    · exact h.Q.lt k hk
    · exact h.L.2.2.2 k hk
  · rcases hk with rfl | hk | hk | hk
    · exact Or.inl (Or.inr rfl)
    · exact Or.inl (Or.inl hk)
    · exact Or.inr (h.nQ k hk)
    · exact Or.inr (h.nL k hk)
  · rcases hk with rfl | rfl
    · exact Or.inl hsd
    · exact Or.inr rfl
set_option maxHeartbeats 3200000 in
theorem wstart_any (b d : Nat) (id : Int) (f : Int → Option DI) (life l1 : Nat) (SD : Nat → Prop) (w : World) (hb : WBox w b d id false 0 0 none none) (hd : DO d f life w SD) (bd : ¬ SD b) (hl : life < 1000000) (h1 : life + 1 = l1) :
    Calls Tryz.prog 46 #[.pointer (some ⟨b, 0, none⟩)] w (StartP w b d id f l1 SD) := by
  have hmm := @run_makeMap Tryz.prog
  have CB := Lib.hid (dborn_o d l1 w hd hl h1)
  have sd : SD d := by obtain ⟨M, n, _, s, _⟩ := hd; exact s
  have d0 := (do_ok _ _ _).lt hd
  have nbd : b ≠ d := fun e => bd (by rw [e]; exact sd)
  have X := Lib.hid hb
  have BL := Lib.hid hb.lt
  have SDD := Lib.hid sd
  have D0 := Lib.hid d0
  have NBD := Lib.hid nbd
  have BD := Lib.hid bd
  have c1 := hb.c1
  clear hb hd bd hl h1 sd d0 nbd
  go_enter Tryz.func46, Tryz.ntmps46
  go_wp2_with fail
  with_reducible refine CB.out.mono ?_
  rintro e w1 ⟨rfl, hD1, t1⟩
  have X1 := X.out.turn t1 NBD.out
  have c3 := X1.c3
  have f3 := X1.fz 3
  have D1 := Lib.hid hD1
  have XX1 := Lib.hid X1
  have T1 := Lib.hid t1
  clear hD1 t1 X1 CB c1
  go_upto_region 1 with fail
  have XX2 := Lib.hid (show WBox (w1.setCell ⟨b, 3, none⟩ (.int .i64 (l1 : Int))) b d id false (l1 : Int) 0 none none from XX1.out.set 3 _ rfl)
  have T2 := Lib.hid (show Turn (fun k => k = d ∨ k = b) w (w1.setCell ⟨b, 3, none⟩ (.int .i64 (l1 : Int))) from (T1.out.mono (fun k hk => Or.inl hk)).trans (Turn.setCell (Or.inr rfl)))
  have D2 := Lib.hid (show DO d f l1 (w1.setCell ⟨b, 3, none⟩ (.int .i64 (l1 : Int))) SD from (do_ok _ _ _).turn D1.out (F := fun k => k = b) (Turn.setCell rfl) (fun k hk e => BD.out (by rw [← e]; exact hk)))
  generalize w1.setCell ⟨b, 3, none⟩ (.int .i64 (l1 : Int)) = w2 at XX2 T2 D2 ⊢
  have c2 := XX2.out.c2
  have f2 := XX2.out.fz 2
  clear XX1 T1 D1 c3 f3
  go_upto_region 2 with fail
  have XX3 := Lib.hid (show WBox (w2.setCell ⟨b, 2, none⟩ (.bool true)) b d id true (l1 : Int) 0 none none from XX2.out.set 2 _ rfl)
  have T3 := Lib.hid (show Turn (fun k => k = d ∨ k = b) w (w2.setCell ⟨b, 2, none⟩ (.bool true)) from T2.out.trans (Turn.setCell (Or.inr rfl)))
  have D3 := Lib.hid (show DO d f l1 (w2.setCell ⟨b, 2, none⟩ (.bool true)) SD from (do_ok _ _ _).turn D2.out (F := fun k => k = b) (Turn.setCell rfl) (fun k hk e => BD.out (by rw [← e]; exact hk)))
  generalize w2.setCell ⟨b, 2, none⟩ (.bool true) = w3 at XX3 T3 D3 ⊢
  clear XX2 T2 D2 c2 f2
  go_wp2_with fail
  refine (qNew_any w3).mono ?_
  rintro e w4 ⟨q, SQ, rfl, hq, nq, b4⟩
  have XX4 := Lib.hid (XX3.out.below b4)
  have T4 := Lib.hid (T3.out.trans (Turn.of_below b4))
  have D4 := Lib.hid ((do_ok _ _ _).below D3.out b4)
  have Q4 := Lib.hid hq
  have NQ := Lib.hid (show ∀ k, SQ k → w.heap.size ≤ k from fun k hk => Nat.le_trans T3.out.size (nq k hk))
  have c5 := cellV (i := 5) (v := .pointer none) XX4.out rfl
  have f5 := XX4.out.fz 5
  clear XX3 T3 D3 hq nq b4
  go_upto_region 3 with fail
  have XX5 := Lib.hid (show WBox (w4.setCell ⟨b, 5, none⟩ (.pointer (some ⟨q, 0, none⟩))) b d id true (l1 : Int) 0 (some q) none from XX4.out.set 5 _ rfl)
  have T5 := Lib.hid (show Turn (fun k => k = d ∨ k = b) w (w4.setCell ⟨b, 5, none⟩ (.pointer (some ⟨q, 0, none⟩))) from T4.out.trans (Turn.setCell (Or.inr rfl)))
  have D5 := Lib.hid (show DO d f l1 (w4.setCell ⟨b, 5, none⟩ (.pointer (some ⟨q, 0, none⟩))) SD from (do_ok _ _ _).turn D4.out (F := fun k => k = b) (Turn.setCell rfl) (fun k hk e => BD.out (by rw [← e]; exact hk)))
  have Q5 := Lib.hid (show QAt (w4.setCell ⟨b, 5, none⟩ (.pointer (some ⟨q, 0, none⟩))) q [] SQ from Q4.out.turn (F := fun k => k = b) (Turn.setCell rfl) (fun k hk e => by have := NQ.out k hk; have := BL.out; omega))
  generalize w4.setCell ⟨b, 5, none⟩ (.pointer (some ⟨q, 0, none⟩)) = w5 at XX5 T5 D5 Q5 ⊢
  clear XX4 T4 D4 Q4 c5 f5
  have b6 := below_one w5 (.map #[] 0)
  have L6 := Lib.hid (lon_made w5)
  have XX6 := Lib.hid (XX5.out.below b6)
  have T6 := Lib.hid (T5.out.trans (Turn.of_below b6))
  have D6 := Lib.hid ((do_ok _ _ _).below D5.out b6)
  have Q6 := Lib.hid (Q5.out.below b6)
  obtain ⟨mm, hm⟩ : ∃ mm, w5.heap.size = mm := ⟨_, rfl⟩
  have MG := Lib.hid (show w.heap.size ≤ mm ∧ ∀ k, SQ k → k ≠ mm from ⟨by have := T5.out.size; omega, fun k hk e => by have := Q5.out.lt k hk; omega⟩)
  obtain ⟨w6, hw6⟩ : ∃ w6, w5.alloc (.map #[] 0) = w6 := ⟨_, rfl⟩
  rw [hm, hw6] at L6
  rw [hw6] at XX6 T6 D6 Q6
  have c6 := XX6.out.c6
  have f6 := XX6.out.fz 6
  clear b6 XX5 T5 D5 Q5
  go_upto_region 4 with fail
  try rw [hw6]
  try rw [hm]
  clear hw6 hm
  have E7 := Lib.hid (show Beg w b d q mm 0 id f l1 (fun _ => none) SD SQ (fun k => k = mm) (w6.setCell ⟨b, 6, none⟩ (.map (some mm))) from
    ⟨XX6.out.set 6 _ rfl, (do_ok _ _ _).turn D6.out (F := fun k => k = b) (Turn.setCell rfl) (fun k hk e => BD.out (by rw [← e]; exact hk)), Q6.out.turn (F := fun k => k = b) (Turn.setCell rfl) (fun k hk e => by have := NQ.out k hk; have := BL.out; omega), (lon_ok _ _ _).turn L6.out (F := fun k => k = b) (Turn.setCell rfl) (fun k hk e => by have := MG.out.1; have := BL.out; omega), BD.out, NQ.out, fun k hk => by rw [hk]; exact MG.out.1, fun k h1 h2 => MG.out.2 k h1 h2, BL.out, D0.out, T6.out.trans (Turn.setCell (Or.inr rfl))⟩)
  generalize w6.setCell ⟨b, 6, none⟩ (.map (some mm)) = w7 at E7 ⊢
  clear XX6 T6 D6 Q6 L6 c6 f6
  go_wp2_with fail
  go_loopw [25] (fun iv wr => ∃ (j nm : Nat) (sh : Int → Option LD) (SL : Nat → Prop), j ≤ 6 ∧ nm ≤ j ∧ iv = .int .i64 j ∧ Hid (LoadR f sh j) ∧ Hid (Beg w b d q mm nm id f l1 sh SD SQ SL wr)) (fun iv _ => 6 - (intOf iv).toNat)
  case atStart => exact ⟨0, 0, fun _ => none, fun k => k = mm, by omega, by omega, rfl, Lib.hid (loadR_nil f), E7⟩
  case round =>
    clear E7
    obtain ⟨j, nm, sh, SL, hj, hn, rfl, hR, hE⟩ := hrel
    by_cases hlt : j < 6
    · have wf := wfI_of (x := (j : Int)) (by omega) (by omega)
      have c1 := hE.out.box.c1
      have hcast : ((j + 1 : Nat) : Int) = (j : Int) + 1 := by omega
      obtain ⟨M, n0, hDA, -⟩ := hE.out.D
      cases hf : f (j : Int) with
      | none =>
        have CR := Lib.hid (dread_no d (j : Int) wr hDA wf hf)
        have R2 := Lib.hid (show LoadR f sh ((j + 1 : Nat) : Int) from by rw [hcast]; exact loadR_skip hR.out hf)
        clear hDA hf hcast
        go_wp2_with fail
        with_reducible refine CR.out.mono ?_
        rintro e w8 ⟨rfl, hb⟩
        have E8 := Lib.hid (hE.out.below hb)
        clear hb CR c1
        go_wp2_with fail
        go_roundw
        case rel => exact ⟨j + 1, nm, sh, SL, by omega, by omega, by go_num, R2, E8⟩
        case measure => simp [intOf] <;> omega
      | some i =>
        have CR := Lib.hid (dread_yes d (j : Int) i wr hDA wf hf)
        have IK := Lib.hid (hDA.im (j : Int) i hf)
        obtain ⟨bs, hbs⟩ : ∃ bs, i.sb = bs := ⟨_, rfl⟩
        have R2 := Lib.hid (fun l (hl : LdOf bs l) => (show LoadR f (lput sh (j : Int) l) ((j + 1 : Nat) : Int) from by rw [hcast]; exact loadR_put hR.out (by omega) hf (by rw [hbs]; exact hl)))
        have LT := Lib.hid (show (∀ z ∈ bs, z < 256) ∧ bs.length ≤ 1048576 from by
          have h2 := IK.out.hi
          have h3 := IK.out.eq
          rw [hbs] at h3
          exact ⟨hbs ▸ IK.out.s.2, by omega⟩)
        obtain ⟨m, hm⟩ : ∃ m, bs.length = m := ⟨_, rfl⟩
        have HM := Lib.hid hm
        unfold ReadD at CR
        rw [hbs, hm] at CR
        rw [hm] at LT
        clear hDA hf hcast IK hbs hm
        go_wp2_with fail
        with_reducible refine CR.out.mono ?_
        rintro e w8 ⟨a8, cc8, rfl, ho, hc8, hb⟩
        have E8 := Lib.hid (hE.out.below hb)
        have H8 := Lib.hid (holdsB_of_values (owns_holds ho) LT.out.1)
        have L8 := Lib.hid LT.out.2
        clear ho hb CR c1 hE
        cases hd : decS bs with
        | none =>
          obtain ⟨x, hx⟩ : ∃ x, (if openB bs then (8 : Int) else 9) = x := ⟨_, rfl⟩
          have CD := Lib.hid (decode_no a8 m cc8 bs x w8 H8.out hc8 L8.out hd hx)
          have R3 := Lib.hid (R2.out ⟨none, [], x⟩ (by unfold LdOf; rw [hd]; exact ⟨rfl, rfl, hx.symm⟩))
          clear hd hx R2
          go_wp2_with fail
          with_reducible refine CD.out.mono ?_
          rintro e w9 ⟨rfl, hb⟩
          have E9 := Lib.hid (E8.out.below hb)
          have c6 := E9.out.box.c6
          clear hb CD E8
          go_wp2_with (at_mapUpdate; refine wpList_put_mv mapTl rfl (.tmp 47) (.tmp 48) (.tmp 51) rfl rfl E9.out.L.1 (by unfold maxLen; omega) (j : Int) (ldV ⟨none, [], x⟩) rfl rfl wf ?_; intro w10 m10 t10)
          have hn10 : (if (lV sh (j : Int)).isSome then nm else nm + 1) ≤ nm + 1 := by split <;> omega
          have E10 := Lib.hid (E9.out.put (Sg := fun _ => False) m10 (TurnV.of_mapTurned t10 rfl) (fun k hk => hk.elim) (fun g e => (by cases e)))
          clear m10 t10 E9 c6
          go_wp2_with fail
          go_roundw
          case rel => exact ⟨j + 1, _, _, _, by omega, by omega, by go_num, R3, E10⟩
          case measure => simp [intOf] <;> omega
        | some ts =>
          have GV := Lib.hid (decS_some hd).1
          have CD := Lib.hid (decode_yes a8 m cc8 bs ts (grS ts) w8 (Below.refl w8.heap.size w8) H8.out hc8 L8.out hd rfl)
          have R3 := Lib.hid (fun g => R2.out ⟨some g, ts, 0⟩ (by unfold LdOf; rw [hd]; exact ⟨⟨g, rfl⟩, rfl, rfl⟩))
          clear hd R2
          go_wp2_with fail
          with_reducible refine CD.out.mono ?_
          rintro e w9 ⟨g, Sg, rfl, hG, hb⟩
          have E9 := Lib.hid (E8.out.below hb)
          have G9 := Lib.hid hG.G
          have SG := Lib.hid (show ∀ k, Sg k → k < w9.heap.size ∧ ¬ SQ k ∧ w.heap.size ≤ k ∧ k ≠ mm from fun k hk => by
            have h1 := hG.s k hk
            have h2 := E8.out.t.size
            exact ⟨(gAt_ok g _).lt hG.G k hk, fun h3 => by have := E8.out.Q.lt k h3; omega, by omega, fun e => by have := E8.out.L.2.2.2 _ E8.out.L.2.1; omega⟩)
          have c6 := E9.out.box.c6
          clear hb CD E8 hG
          go_wp2_with (at_mapUpdate; refine wpList_put_mv mapTl rfl (.tmp 47) (.tmp 48) (.tmp 51) rfl rfl E9.out.L.1 (by unfold maxLen; omega) (j : Int) (ldV ⟨some g, ts, 0⟩) rfl rfl wf ?_; intro w10 m10 t10)
          have hn10 : (if (lV sh (j : Int)).isSome then nm else nm + 1) ≤ nm + 1 := by split <;> omega
          have R4 := Lib.hid (R3.out g)
          have E10 := Lib.hid (E9.out.put m10 (TurnV.of_mapTurned t10 rfl) SG.out (fun g' e => by
            injection e with e
            subst e
            exact ⟨GV.out, G9.out⟩))
          clear m10 t10 E9 G9 c6 R3
          go_wp2_with fail
          go_roundw
          case rel => exact ⟨j + 1, _, _, _, by omega, by omega, by go_num, R4, E10⟩
          case measure => simp [intOf] <;> omega
    · obtain rfl : j = 6 := by omega
      have FIN := Lib.hid (hE.out.done (by omega) SDD.out hR.out)
      clear hE hR
      go_wp2_with fail
      go_end0
      exact FIN.out
end Go.Proofs.YtgnaiahnednllaaGreat
namespace Go.Proofs.YtgnaiahnednllaaGreat
open Go.RowKit
set_option linter.unusedVariables false
set_option maxRecDepth 20000
def LowI (B : Nat) (f : Int → Option DI) : Prop := ∀ x i, f x = some i → (∀ k o, i.oa = some ⟨k, o, none⟩ → B ≤ k) ∧ (∀ k o, i.sa = some ⟨k, o, none⟩ → B ≤ k)
def NewF2 (B : Nat) (c : Cfg) (K : List Nat) (f : Int → Option DI) : Prop := NewF c K f ∧ LowI B f
theorem newF2_nil (B : Nat) (c : Cfg) : NewF2 B c [] (fun _ => none) := ⟨newF_nil c, fun x i e => (by cases e)⟩
theorem newF2_put {B : Nat} {c : Cfg} {K : List Nat} {f : Int → Option DI} (h : NewF2 B c K f) (s : Nat) (i : DI) (h1 : i.ob = imgC c s) (h2 : i.sb = imgC c s) (h3 : ∀ k o, i.oa = some ⟨k, o, none⟩ → B ≤ k) (h4 : ∀ k o, i.sa = some ⟨k, o, none⟩ → B ≤ k) : NewF2 B c (K ++ [s]) (fput f (s : Int) i) :=
  ⟨newF_put h.1 s i h1 h2, fun x j e => by
    unfold fput at e
    split at e
    · injection e with e; subst e; exact ⟨h3, h4⟩
    · exact h.2 x j e⟩
theorem own_low {w : World} {base : Nat} {e : TypeId} {size : Nat} {a : Option Addr} {n c : Nat} {xs : List Value} (h : w.ownsRow base e size (.slice a n c) n xs) {B : Nat} (hB : B ≤ base) : ∀ q o, a = some ⟨q, o, none⟩ → B ≤ q := fun q o e1 => by
  have := (h.lt q (by rw [e1]; rfl)).1
  omega
def NewD2 (w : World) (c : Cfg) (K : List Nat) (e : Ending) (w' : World) : Prop := ∃ d M n f, e = .returned (.tuple #[.pointer (some ⟨d, 0, none⟩), .int .i64 0]) ∧ DAt w.heap.size d M n f 0 w' ∧ NewF2 w.heap.size c K f ∧ Below w.heap.size w w'
set_option maxHeartbeats 6400000 in
set_option maxRecDepth 100000 in
theorem dnew_low (c : Cfg) (x : Int) (W C : Nat) (K : List Nat) (w : World) (h : CfgOk w c) (hm : c.may = true) (hW : c.W = (W : Int)) (hC : c.C = (C : Int)) (hx1 : 1 ≤ x) (hx2 : x ≤ c.W) (hK : Pl.keep W C (c.kn + 1) x = K) :
    Calls Tryz.prog 45 #[.agg #[.slice c.wa c.wn c.wc, .slice c.ka c.kn c.kc, .int .i64 c.W, .int .i64 c.C, .int .i64 c.S, .int .i64 c.B, .int .i64 c.L, .int .i64 c.H, .int .i64 c.F, .int .i64 c.P, .int .i64 c.J, .int .i64 c.N], .int .i64 x] w (NewD2 w c K) := by
  have hmm := @run_makeMap Tryz.prog
  have BX := Lib.hid (below_one w (.cells #[.slice c.wa c.wn c.wc, .slice c.ka c.kn c.kc, .int .i64 c.W, .int .i64 c.C, .int .i64 c.S, .int .i64 c.B, .int .i64 c.L, .int .i64 c.H, .int .i64 c.F, .int .i64 c.P, .int .i64 c.J, .int .i64 c.N] 25))
  have IN := Lib.hid (cfgIn_new w c w.heap.size 25 (0, 0) rfl)
  have OK := Lib.hid h
  have CM := Lib.hid (fun w' (hb : Below w.heap.size w w') => may_cfg c true w' (OK.out.below hb) hm)
  have hkn := may_kn hm h
  have KN := Lib.hid hkn
  have KM := Lib.hid (show ∀ s ∈ K, s < c.kn + 1 from fun s hs => by rw [← hK] at hs; exact (Pl.keep_mem hs).1)
  have hk6 : K.length ≤ 6 := by
    rw [← hK]
    have := Pl.keep_len W C (c.kn + 1) x
    omega
  have CK := Lib.hid (fun w' (hb : Below w.heap.size w w') => (show Calls Tryz.prog 20 #[.agg #[.slice c.wa c.wn c.wc, .slice c.ka c.kn c.kc, .int .i64 c.W, .int .i64 c.C, .int .i64 c.S, .int .i64 c.B, .int .i64 c.L, .int .i64 c.H, .int .i64 c.F, .int .i64 c.P, .int .i64 c.J, .int .i64 c.N], .int .i64 x] w' (RetZ w' (natsZ K)) from hK ▸ keeps_any c x W C w' (OK.out.below hb) hm hW hC))
  have CI := Lib.hid (fun w' (s m : Nat) (I : List Nat) (hs : s < c.kn + 1) (hI : imgC c s = I) (hl : I.length = m) (hb : Below w.heap.size w w') => image_in c s (sliceS c.ks c.ws s) I m w' (OK.out.below hb) hm hs rfl hI hl)
  have GL := Lib.hid (show ∀ s : Nat, 10 ≤ (imgC c s).length ∧ (imgC c s).length ≤ 524004 from fun s => imgB_len (good_filter (may_parts hm).1 _))
  obtain ⟨k, hkl⟩ : ∃ k, K.length = k := ⟨_, rfl⟩
  rw [hkl] at hk6
  have HKL := Lib.hid hkl
  unfold RetZ at CK
  rw [natsZ_len, hkl] at CK
  have d1 : decide (x < 1) = false := decide_eq_false (by omega)
  have d2 : decide (c.W < x) = false := decide_eq_false (by omega)
  clear h hm hW hC hK hx1 hx2 hkn hkl
  go_enter Tryz.func45, Tryz.ntmps45
  go_upto_region 1 with fail
  generalize w.alloc (.cells #[.slice c.wa c.wn c.wc, .slice c.ka c.kn c.kc, .int .i64 c.W, .int .i64 c.C, .int .i64 c.S, .int .i64 c.B, .int .i64 c.L, .int .i64 c.H, .int .i64 c.F, .int .i64 c.P, .int .i64 c.J, .int .i64 c.N] 25) = w1 at *
  obtain ⟨p, hp⟩ : ∃ p, w.heap.size = p := ⟨_, rfl⟩
  have HP := Lib.hid hp
  rw [hp] at IN
  try simp only [hp]
  have hI := IN.out
  unfold CfgIn at hI
  obtain ⟨i0, i1, i2, i3, i4, i5, i6, i7, i8, i9, i10, i11⟩ := hI
  have CM1 := Lib.hid (CM.out w1 BX.out)
  clear CM hp
  go_wp2_with fail
  with_reducible refine CM1.out.mono ?_
  rintro e w2 ⟨rfl, hb2⟩
  have B2 := Lib.hid (bwd_carry (w0 := w) (p := p) (c := c) ⟨BX.out, IN.out⟩ hb2)
  clear hb2 CM1 i0 i1 i2 i3 i4 i5 i6 i7 i8 i9 i10 i11 IN BX
  have hI := B2.out.2
  unfold CfgIn at hI
  obtain ⟨i0, i1, i2, i3, i4, i5, i6, i7, i8, i9, i10, i11⟩ := hI
  go_upto_region 4 with fail
  have hbm := below_one w2 (.map #[] 0)
  have hbd := below_one (w2.alloc (.map #[] 0)) (.cells #[.map (some w2.heap.size), .int .i64 0] 158)
  have hz : (w2.alloc (.map #[] 0)).heap.size = w2.heap.size + 1 := by simp
  have D0 := Lib.hid (show DAt w.heap.size (w2.heap.size + 1) w2.heap.size 0 (fun _ => none) 0 ((w2.alloc (.map #[] 0)).alloc (.cells #[.map (some w2.heap.size), .int .i64 0] 158)) from
    ⟨by rw [← hz, cell_alloc rfl]; rfl, by rw [← hz, cell_alloc rfl]; rfl, fun i => by rw [← hz]; exact frozen_alloc rfl, by omega, (mapV_made w2).below hbd, fun x i e => (by cases e), fun x i e => (by cases e), by have := B2.out.1.size; omega, B2.out.1.size, by omega⟩)
  have B3 := Lib.hid (bwd_carry (bwd_carry B2.out hbm) hbd)
  clear hbm hbd hz B2 i0 i1 i2 i3 i4 i5 i6 i7 i8 i9 i10 i11
  obtain ⟨w3, hw3⟩ : ∃ w3, (w2.alloc (.map #[] 0)).alloc (.cells #[.map (some w2.heap.size), .int .i64 0] 158) = w3 := ⟨_, rfl⟩
  rw [hw3] at D0 B3 ⊢
  clear hw3
  generalize w2.heap.size + 1 = d at *
  generalize w2.heap.size = M at *
  have hI := B3.out.2
  unfold CfgIn at hI
  obtain ⟨i0, i1, i2, i3, i4, i5, i6, i7, i8, i9, i10, i11⟩ := hI
  have CK1 := Lib.hid (CK.out w3 B3.out.1)
  clear CK
  go_wp2_with fail
  with_reducible refine CK1.out.mono ?_
  rintro e w4 ⟨ka, kc, rfl, ho, hb4⟩
  have KH := Lib.hid (holdsZ_own ho)
  have B4 := Lib.hid (bwd_carry B3.out hb4)
  have D4 := Lib.hid (D0.out.below hb4)
  clear ho hb4 CK1 D0 B3 i0 i1 i2 i3 i4 i5 i6 i7 i8 i9 i10 i11
  go_wp2_with fail
  go_loopw [31] (fun iv wr => ∃ (j n : Nat) (f : Int → Option DI), j ≤ k ∧ iv = .int .i64 j ∧ n ≤ j ∧ Hid (NewF2 w.heap.size c (K.take j) f) ∧ Hid (DAt w.heap.size d M n f 0 wr) ∧ Hid (BWD w p c wr) ∧ Hid (HoldsI .i64 wr ka k (natsZ K))) (fun iv _ => k - (intOf iv).toNat)
  case atStart => exact ⟨0, 0, fun _ => none, by omega, rfl, by omega, Lib.hid (by rw [List.take_zero]; exact newF2_nil _ c), D4, B4, KH⟩
  case round =>
    clear D4 B4 KH
    obtain ⟨j, n, f, hj, rfl, hn, hF, hD, hB, hK⟩ := hrel
    by_cases hlt : j < k
    · obtain ⟨qb, qo, rfl, hcc⟩ := hK.out.at (by omega)
      have x0 := hcc j hlt
      rw [natsZ_at] at x0
      obtain ⟨s, hs⟩ : ∃ s, K.getD j 0 = s := ⟨_, rfl⟩
      rw [hs] at x0
      have hsK : s ∈ K := by
        rw [← hs, List.getD_eq_getElem?_getD, List.getElem?_eq_getElem (by rw [HKL.out]; exact hlt)]; exact List.getElem_mem _
      have hsn := KM.out s hsK
      have HS := Lib.hid (show K.take (j + 1) = K.take j ++ [s] from by rw [take_nat (by rw [HKL.out]; exact hlt), hs])
      obtain ⟨I, hII⟩ : ∃ I, imgC c s = I := ⟨_, rfl⟩
      obtain ⟨m, hm⟩ : ∃ m, I.length = m := ⟨_, rfl⟩
      obtain ⟨m10, m52⟩ := GL.out s
      rw [hII, hm] at m10 m52
      have CI1 := Lib.hid (CI.out wr s m I hsn hII hm hB.out.1)
      have HM := Lib.hid hm
      have HI := Lib.hid hII
      have wf := wfI_of (x := (s : Int)) (by omega) (by have := KN.out; omega)
      have hI := hB.out.2
      unfold CfgIn at hI
      obtain ⟨i0, i1, i2, i3, i4, i5, i6, i7, i8, i9, i10, i11⟩ := hI
      have n1 : (0 : Int) ≤ (j : Int) := by omega
      have n2 : (j : Int) < (k : Int) := by omega
      clear hcc hs hsK hII hm
      go_wp2_with fail
      with_reducible refine CI1.out.mono ?_
      rintro e w5 ⟨a5, c5, rfl, o5, h5, hc5, hb5⟩
      have D5 := Lib.hid (hD.out.below hb5)
      have B5 := Lib.hid (bwd_carry hB.out hb5)
      have K5 := Lib.hid (hK.out.below hb5)
      have I5 := Lib.hid (show ImgK w5 ⟨a5, I, c5, a5, I, c5⟩ from ⟨HM.out.symm ▸ h5, HM.out.symm ▸ h5, HM.out.symm ▸ hc5, HM.out.symm ▸ hc5, HM.out.symm ▸ m10, HM.out.symm ▸ m52, rfl⟩)
      have A5 := Lib.hid (show apartD d M a5 from apartD_new hD.out (Nat.le_refl _) o5 (by omega))
      have c0 := D5.out.c0
      have W5 := Lib.hid (own_low o5 hB.out.1.size)
      clear o5 h5 hc5 hb5 CI1 i0 i1 i2 i3 i4 i5 i6 i7 i8 i9 i10 i11 x0 hD hB hK
      have HV := Lib.hid (show diV ⟨a5, I, c5, a5, I, c5⟩ = .agg #[.slice a5 m c5, .slice a5 m c5] from by unfold diV; simp only [HM.out])
      go_wp2_with (at_mapUpdate; refine wpList_put_mv mapTd rfl (.tmp 46) (.tmp 47) (.tmp 50) rfl rfl D5.out.m (by unfold maxLen; omega) (s : Int) (diV ⟨a5, I, c5, a5, I, c5⟩) rfl HV.out.symm wf ?_; intro w6 m6 t6)
      have hn6 : (if (fV f (s : Int)).isSome then n else n + 1) ≤ n + 1 := by split <;> omega
      have D6 := Lib.hid (D5.out.put I5.out ⟨A5.out, A5.out⟩ m6 t6 (by omega))
      have T6 := TurnV.of_mapTurned (F := fun k => k = M) t6 rfl
      have B6 := Lib.hid (show BWD w p c w6 from ⟨(B5.out.1).grown t6.grown B5.out.1.size (fun k e => by cases e; exact D5.out.MB), CfgIn.of B5.out.2 (fun i => T6.cell (lt_of_cell B5.out.2.1) (fun e => MapV.no_cell D5.out.m 0 _ (e ▸ B5.out.2.1)))⟩)
      have K6 := Lib.hid (show HoldsI .i64 w6 (some ⟨qb, qo, none⟩) k (natsZ K) from by
        refine ⟨K5.out.1, fun h0 => ?_⟩
        obtain ⟨q, o, e, hc⟩ := K5.out.2 h0
        exact ⟨q, o, e, fun i hi => (T6.cell (lt_of_cell (hc i hi)) (fun e2 => MapV.no_cell D5.out.m _ _ (e2 ▸ hc i hi))).trans (hc i hi)⟩)
      have F6 := Lib.hid (newF2_put hF.out s ⟨a5, I, c5, a5, I, c5⟩ HI.out.symm HI.out.symm W5.out W5.out)
      clear m6 t6 T6 D5 B5 K5 I5 A5 c0
      go_wp2_with fail
      go_roundw
      case rel => exact ⟨j + 1, _, _, by omega, by go_num, by omega, Lib.hid (by rw [HS.out]; exact F6.out), D6, B6, K6⟩
      case measure => simp [intOf] <;> omega
    · obtain rfl : j = k := by omega
      have FF := Lib.hid (show NewF2 w.heap.size c K f from by have := hF.out; rw [← HKL.out, List.take_length] at this; exact this)
      go_wp2_with fail
      go_ret2
      exact ⟨d, M, n, f, rfl, hD.out, FF.out, hB.out.1⟩
end Go.Proofs.YtgnaiahnednllaaGreat
namespace Go.Proofs.YtgnaiahnednllaaGreat
open Go.RowKit
set_option linter.unusedVariables false
set_option maxRecDepth 20000
theorem WkO.box {b d : Nat} {s : Wk} {w : World} {S : Nat → Prop} (h : WkO b d s w S) : ∃ qp mp, WBox w b d s.id s.up s.wl s.ep qp mp := by
  obtain ⟨qp, mp, SD, SQ, SL, h, -⟩ := h; exact ⟨qp, mp, h.box⟩
theorem WkO.down {b d : Nat} {s : Wk} {w : World} {S : Nat → Prop} (h : WkO b d s w S) (u : s.up = false) : s.wl = 0 ∧ s.ep = 0 := by
  obtain ⟨qp, mp, SD, SQ, SL, h, -⟩ := h; exact (h.dn u).2.2
theorem WkO.disk {b d : Nat} {s : Wk} {w : World} {S : Nat → Prop} (h : WkO b d s w S) : ∃ M n, DAt 0 d M n s.f s.life w := by
  obtain ⟨qp, mp, SD, SQ, SL, h, -⟩ := h; obtain ⟨M, n, hD, -⟩ := h.D; exact ⟨M, n, hD⟩
theorem row_S {w : World} {b d : Nat} {id wl ep : Int} {qp mp : Option Nat} (h : w.cell? ⟨b, 0, none⟩ = some (.int .i64 id) ∧ w.cell? ⟨b, 1, none⟩ = some (.pointer (some ⟨d, 0, none⟩))) {u : Bool} {cs : Array Value} (hx : w.heap[b]? = some (.cells cs 95 (0, 0))) : (w.setRow b (wkCells d id u wl ep qp mp)).cell? ⟨b, 0, none⟩ = some (.int .i64 id) ∧ (w.setRow b (wkCells d id u wl ep qp mp)).cell? ⟨b, 1, none⟩ = some (.pointer (some ⟨d, 0, none⟩)) :=
  ⟨cellV (setRow_heap w b _ _ _ _ hx) rfl, cellV (setRow_heap w b _ _ _ _ hx) rfl⟩
theorem wUp_nil (w : World) : Calls Tryz.prog 24 #[.pointer none] w fun e w' => e = .returned (.bool false) ∧ w = w' := by
  go_enter Tryz.func24, Tryz.ntmps24
  go_wp2_with fail
  go_ret
  exact ⟨rfl, rfl⟩
theorem wUp_o {b d : Nat} {s : Wk} {S : Nat → Prop} (u : Bool) (w : World) (h : WkO b d s w S) (hu : s.up = u) : Calls Tryz.prog 24 #[.pointer (some ⟨b, 0, none⟩)] w fun e w' => e = .returned (.bool u) ∧ w = w' := by
  obtain ⟨qp, mp, hx⟩ := h.box
  have c2 := hx.c2
  rw [hu] at c2
  clear h hx hu
  go_enter Tryz.func24, Tryz.ntmps24
  go_wp2_with fail
  go_ret
  exact ⟨rfl, rfl⟩
theorem wEpoch_nil (w : World) : Calls Tryz.prog 28 #[.pointer none] w fun e w' => e = .returned (.int .i64 0) ∧ w = w' := by
  go_enter Tryz.func28, Tryz.ntmps28
  go_wp2_with fail
  refine (wUp_nil w).mono ?_
  rintro e w' ⟨rfl, rfl⟩
  go_wp2_with fail
  go_ret
  exact ⟨rfl, rfl⟩
theorem wEpoch_o {b d : Nat} {s : Wk} {S : Nat → Prop} (ep : Int) (w : World) (h : WkO b d s w S) (he : s.ep = ep) : Calls Tryz.prog 28 #[.pointer (some ⟨b, 0, none⟩)] w fun e w' => e = .returned (.int .i64 ep) ∧ w = w' := by
  obtain ⟨qp, mp, hx⟩ := h.box
  have c4 := hx.c4
  rw [he] at c4
  obtain ⟨u, hu⟩ : ∃ u, s.up = u := ⟨_, rfl⟩
  have CU := Lib.hid (wUp_o u w h hu)
  cases u
  · have e0 := (h.down hu).2
    rw [he] at e0
    subst e0
    clear h hx hu c4
    go_enter Tryz.func28, Tryz.ntmps28
    go_wp2_with fail
    with_reducible refine CU.out.mono ?_
    rintro e w' ⟨rfl, rfl⟩
    go_wp2_with fail
    go_ret
    exact ⟨he ▸ rfl, rfl⟩
  · clear h hx hu he
    go_enter Tryz.func28, Tryz.ntmps28
    go_wp2_with fail
    with_reducible refine CU.out.mono ?_
    rintro e w' ⟨rfl, rfl⟩
    go_wp2_with fail
    go_ret
    exact ⟨rfl, rfl⟩
theorem wDisk_nil (w : World) : Calls Tryz.prog 30 #[.pointer none] w fun e w' => e = .returned (.pointer none) ∧ w = w' := by
  go_enter Tryz.func30, Tryz.ntmps30
  go_wp2_with fail
  go_ret
  exact ⟨rfl, rfl⟩
theorem wDisk_o {b d : Nat} {s : Wk} {S : Nat → Prop} (w : World) (h : WkO b d s w S) : Calls Tryz.prog 30 #[.pointer (some ⟨b, 0, none⟩)] w fun e w' => e = .returned (.pointer (some ⟨d, 0, none⟩)) ∧ w = w' := by
  obtain ⟨qp, mp, hx⟩ := h.box
  have c1 := hx.c1
  clear h hx
  go_enter Tryz.func30, Tryz.ntmps30
  go_wp2_with fail
  go_ret
  exact ⟨rfl, rfl⟩
theorem wLife_nil (w : World) : Calls Tryz.prog 25 #[.pointer none] w fun e w' => e = .returned (.int .i64 0) ∧ w = w' := by
  go_enter Tryz.func25, Tryz.ntmps25
  go_wp2_with fail
  refine (wDisk_nil w).mono ?_
  rintro e w' ⟨rfl, rfl⟩
  go_wp2_with fail
  refine (dlife_nil w).mono ?_
  rintro e w' ⟨rfl, rfl⟩
  go_wp2_with fail
  go_ret
  exact ⟨rfl, rfl⟩
theorem wLife_o {b d : Nat} {s : Wk} {S : Nat → Prop} (l : Nat) (w : World) (h : WkO b d s w S) (hl : s.life = l) : Calls Tryz.prog 25 #[.pointer (some ⟨b, 0, none⟩)] w fun e w' => e = .returned (.int .i64 (l : Int)) ∧ w = w' := by
  have CD := Lib.hid (wDisk_o w h)
  obtain ⟨M, n, hD⟩ := h.disk
  rw [hl] at hD
  have CL := Lib.hid (dlife_any d w hD)
  clear h hD hl
  go_enter Tryz.func25, Tryz.ntmps25
  go_wp2_with fail
  with_reducible refine CD.out.mono ?_
  rintro e w' ⟨rfl, rfl⟩
  go_wp2_with fail
  with_reducible refine CL.out.mono ?_
  rintro e w' ⟨rfl, rfl⟩
  go_wp2_with fail
  go_ret
  exact ⟨rfl, rfl⟩
theorem wCrash_nil (w : World) : Calls Tryz.prog 26 #[.pointer none] w fun e w' => e = .returned (.int .i64 1) ∧ w = w' := by
  go_enter Tryz.func26, Tryz.ntmps26
  go_wp2_with fail
  go_ret
  exact ⟨rfl, rfl⟩
theorem wRestart_nil (w : World) : Calls Tryz.prog 27 #[.pointer none] w fun e w' => e = .returned (.int .i64 1) ∧ w = w' := by
  go_enter Tryz.func27, Tryz.ntmps27
  go_wp2_with fail
  go_ret
  exact ⟨rfl, rfl⟩
/-- down -/
def Wk.dead (s : Wk) : Wk := ⟨s.id, s.f, s.life, false, 0, 0, [], fun _ => none⟩
set_option maxHeartbeats 1600000 in
theorem wCrash_up {b d : Nat} {s : Wk} {S : Nat → Prop} (w : World) (h : WkO b d s w S) (hu : s.up = true) : Calls Tryz.prog 26 #[.pointer (some ⟨b, 0, none⟩)] w fun e w' => e = .returned (.int .i64 0) ∧ WkO b d s.dead w' S ∧ Turn (fun k => k = b) w w' := by
  obtain ⟨qp, mp, SD, SQ, SL, h, s1, s2, s3, s4, s5⟩ := h
  have hx := h.box
  rw [hu] at hx
  have c2 := hx.c2
  have X0 : w.drew.heap[b]? = some (.cells (wkCells d s.id true s.wl s.ep qp mp) 95 (0, 0)) := hx
  have k0 : w.drew.cell? ⟨b, 0, none⟩ = some (.int .i64 s.id) := cellV X0 rfl
  have k1 : w.drew.cell? ⟨b, 1, none⟩ = some (.pointer (some ⟨d, 0, none⟩)) := cellV X0 rfl
  have TT := Lib.hid (show ∀ w2, w2 = w.drew.setRow b (wkCells d s.id false 0 0 none none) → Turn (fun k => k = b) w w2 from fun w2 e => by
    subst e
    exact ⟨rfl, rfl, rfl, by simp, fun k hk hn => (setRow_other _ b k _ hn).trans rfl⟩)
  have FIN := Lib.hid (show ∀ w2, w2 = w.drew.setRow b (wkCells d s.id false 0 0 none none) → WkO b d s.dead w2 S ∧ Turn (fun k => k = b) w w2 from fun w2 e => by
    have t := TT.out w2 e
    refine ⟨⟨none, none, SD, fun _ => False, fun _ => False, ⟨?_, (do_ok _ _ _).turn h.D t (fun k hk e => h.bD (by rw [← e]; exact hk)), fun e => (by cases e), fun e => (by cases e), fun _ => ⟨rfl, rfl, rfl, rfl⟩, h.bD, fun e => e, fun e => e, fun k _ e => e, fun k _ e => e, fun k _ e => e⟩, s1, s2, fun k e => e.elim, fun k e => e.elim, fun k hk => Nat.lt_of_lt_of_le (s5 k hk) t.size⟩, t⟩
    subst e
    exact setRow_heap _ b _ _ _ _ X0)
  clear h hx hu TT s1 s2 s3 s4 s5
  go_enter Tryz.func26, Tryz.ntmps26
  go_upto_region 5 with fail
  go_cut [] from 10 to 20 (fun wc => Hid (wc = w.drew.setRow b (wkCells d s.id false 0 0 none none)))
  case first =>
    refine wp_region_held_drew (S := (fun w' => w'.cell? ⟨b, 0, none⟩ = some (.int .i64 s.id) ∧ w'.cell? ⟨b, 1, none⟩ = some (.pointer (some ⟨d, 0, none⟩)))) (by kernel_rfl) ⟨k0, k1⟩ (fun hHeld0 => ?_)
    refine wpAnyH_take (i := 0) (oi := { dst := some 10, op := Op.move (Operand.tmp 0), type := 29, pos := "worker.go:53", after := #[], guard := none }) (v := ?v0) rfl (by kernel_rfl) (by kernel_rfl) (by kernel_rfl) (fun _ _ _ h => h) (Or.inl ⟨by rfl, ?hy0⟩) (by assumption) ?rest0
    case hy0 => (intro w hSw; (try dsimp only at hSw); go_simp; (try with_reducible rfl))
    try simp only [Act.put, List.setIfInBounds_toArray, List.set_cons_zero, List.set_cons_succ]
    refine wpAnyH_take (i := 1) (oi := { dst := some 11, op := Op.move (Operand.tmp 0), type := 29, pos := "worker.go:53", after := #[], guard := none }) (v := ?v1) rfl (by kernel_rfl) (by kernel_rfl) (by kernel_rfl) (fun _ _ _ h => h) (Or.inl ⟨by rfl, ?hy1⟩) (by assumption) ?rest1
    case hy1 => (intro w hSw; (try dsimp only at hSw); go_simp; (try with_reducible rfl))
    try simp only [Act.put, List.setIfInBounds_toArray, List.set_cons_zero, List.set_cons_succ]
    refine wpAnyH_take (i := 2) (oi := { dst := some 12, op := Op.nilCheck (Operand.tmp 11), type := 0, pos := "worker.go:53", after := #[{ on := 1, ground := Ground.data }], guard := none }) (v := ?v2) rfl (by kernel_rfl) (by kernel_rfl) (by kernel_rfl) (fun _ _ _ h => h) (Or.inl ⟨by rfl, ?hy2⟩) (by assumption) ?rest2
    case hy2 => (intro w hSw; (try dsimp only at hSw); go_simp; (try with_reducible rfl))
    try simp only [Act.put, List.setIfInBounds_toArray, List.set_cons_zero, List.set_cons_succ]
    refine wpAnyH_take (i := 3) (oi := { dst := some 13, op := Op.fieldAddr 95 (Operand.tmp 12) 0, type := 0, pos := "worker.go:53", after := #[{ on := 2, ground := Ground.data }], guard := none }) (v := ?v3) rfl (by kernel_rfl) (by kernel_rfl) (by kernel_rfl) (fun _ _ _ h => h) (Or.inl ⟨by rfl, ?hy3⟩) (by assumption) ?rest3
    case hy3 => (intro w hSw; (try dsimp only at hSw); go_simp; (try with_reducible rfl))
    try simp only [Act.put, List.setIfInBounds_toArray, List.set_cons_zero, List.set_cons_succ]
    refine wpAnyH_take (i := 4) (oi := { dst := some 14, op := Op.load 3 (Operand.tmp 13), type := 3, pos := "worker.go:53", after := #[{ on := 3, ground := Ground.data }], guard := none }) (v := ?v4) rfl (by kernel_rfl) (by kernel_rfl) (by kernel_rfl) (fun _ _ _ h => h) (Or.inl ⟨by rfl, ?hy4⟩) (by assumption) ?rest4
    case hy4 => (intro w hSw; (try dsimp only at hSw); go_simp; (try with_reducible rfl))
    try simp only [Act.put, List.setIfInBounds_toArray, List.set_cons_zero, List.set_cons_succ]
    refine wpAnyH_take (i := 5) (oi := { dst := some 15, op := Op.move (Operand.tmp 0), type := 29, pos := "worker.go:53", after := #[], guard := none }) (v := ?v5) rfl (by kernel_rfl) (by kernel_rfl) (by kernel_rfl) (fun _ _ _ h => h) (Or.inl ⟨by rfl, ?hy5⟩) (by assumption) ?rest5
    case hy5 => (intro w hSw; (try dsimp only at hSw); go_simp; (try with_reducible rfl))
    try simp only [Act.put, List.setIfInBounds_toArray, List.set_cons_zero, List.set_cons_succ]
    refine wpAnyH_take (i := 6) (oi := { dst := some 16, op := Op.nilCheck (Operand.tmp 15), type := 0, pos := "worker.go:53", after := #[{ on := 5, ground := Ground.data }], guard := none }) (v := ?v6) rfl (by kernel_rfl) (by kernel_rfl) (by kernel_rfl) (fun _ _ _ h => h) (Or.inl ⟨by rfl, ?hy6⟩) (by assumption) ?rest6
    case hy6 => (intro w hSw; (try dsimp only at hSw); go_simp; (try with_reducible rfl))
    try simp only [Act.put, List.setIfInBounds_toArray, List.set_cons_zero, List.set_cons_succ]
    refine wpAnyH_take (i := 7) (oi := { dst := some 17, op := Op.fieldAddr 95 (Operand.tmp 16) 1, type := 0, pos := "worker.go:53", after := #[{ on := 6, ground := Ground.data }], guard := none }) (v := ?v7) rfl (by kernel_rfl) (by kernel_rfl) (by kernel_rfl) (fun _ _ _ h => h) (Or.inl ⟨by rfl, ?hy7⟩) (by assumption) ?rest7
    case hy7 => (intro w hSw; (try dsimp only at hSw); go_simp; (try with_reducible rfl))
    try simp only [Act.put, List.setIfInBounds_toArray, List.set_cons_zero, List.set_cons_succ]
    refine wpAnyH_take (i := 8) (oi := { dst := some 18, op := Op.load 59 (Operand.tmp 17), type := 59, pos := "worker.go:53", after := #[{ on := 7, ground := Ground.data }], guard := none }) (v := ?v8) rfl (by kernel_rfl) (by kernel_rfl) (by kernel_rfl) (fun _ _ _ h => h) (Or.inl ⟨by rfl, ?hy8⟩) (by assumption) ?rest8
    case hy8 => (intro w hSw; (try dsimp only at hSw); go_simp; (try with_reducible rfl))
    try simp only [Act.put, List.setIfInBounds_toArray, List.set_cons_zero, List.set_cons_succ]
    refine wpAnyH_take (i := 9) (oi := { dst := some 19, op := Op.build 95 #[(0, Operand.tmp 14), (1, Operand.tmp 18)], type := 95, pos := "worker.go:53", after := #[{ on := 4, ground := Ground.data }, { on := 8, ground := Ground.data }], guard := none }) (v := ?v9) rfl (by kernel_rfl) (by kernel_rfl) (by kernel_rfl) (fun _ _ _ h => h) (Or.inl ⟨by rfl, ?hy9⟩) (by assumption) ?rest9
    case hy9 => (intro w hSw; (try dsimp only at hSw); go_simp; (try with_reducible rfl))
    try simp only [Act.put, List.setIfInBounds_toArray, List.set_cons_zero, List.set_cons_succ]
    refine wpAnyH_take (i := 10) (oi := { dst := some 20, op := Op.nilCheck (Operand.tmp 10), type := 0, pos := "worker.go:53", after := #[{ on := 0, ground := Ground.data }, { on := 0, ground := Ground.phase }, { on := 1, ground := Ground.phase }, { on := 2, ground := Ground.phase }, { on := 3, ground := Ground.phase }, { on := 4, ground := Ground.phase }, { on := 5, ground := Ground.phase }, { on := 6, ground := Ground.phase }, { on := 7, ground := Ground.phase }, { on := 8, ground := Ground.phase }, { on := 9, ground := Ground.phase }], guard := none }) (v := ?v10) rfl (by kernel_rfl) (by kernel_rfl) (by kernel_rfl) (fun _ _ _ h => h) (Or.inl ⟨by rfl, ?hy10⟩) (by assumption) ?rest10
    case hy10 => (intro w hSw; (try dsimp only at hSw); go_simp; (try with_reducible rfl))
    try simp only [Act.put, List.setIfInBounds_toArray, List.set_cons_zero, List.set_cons_succ]
    refine wpAnyH_ready (rs := [11]) (by kernel_rfl) (by simp) ?_
    refine AllReadyH.cons (o := { dst := none, op := Op.store 95 (Operand.tmp 20) (Operand.tmp 19), type := 0, pos := "worker.go:53", after := #[{ on := 10, ground := Ground.data }, { on := 9, ground := Ground.data }, { on := 0, ground := Ground.phase }, { on := 1, ground := Ground.phase }, { on := 2, ground := Ground.phase }, { on := 3, ground := Ground.phase }, { on := 4, ground := Ground.phase }, { on := 5, ground := Ground.phase }, { on := 6, ground := Ground.phase }, { on := 7, ground := Ground.phase }, { on := 8, ground := Ground.phase }, { on := 9, ground := Ground.phase }], guard := none }) rfl (fun K hK => ?_) AllReadyH.nil
    rw [if_pos (by rfl)]
    refine wp_store_row 95 _ _ rfl b (wkCells d s.id false 0 0 none none) (by rfl) (by rfl) 95 (wkCells d s.id true s.wl s.ep qp mp) X0 (by kernel_rfl) rfl (by kernel_rfl) ?_
    refine hK.out _ _ (row_S hHeld0 X0) (fun hHeldE => ?_)
    try simp only [Act.put]
    refine wpAnyH_done (by kernel_rfl) ?_ _
    go_wp2_with fail
    go_meet
    exact Lib.hid rfl
  case rest =>
    obtain ⟨r1, r2⟩ := FIN.out wc hcut.out
    go_wp2_with fail
    go_ret
    exact ⟨rfl, r1, r2⟩
/-- it has begun anew -/
def BornP (b d : Nat) (id : Int) (f : Int → Option DI) (l1 : Nat) (w : World) (S : Nat → Prop) (w' : World) : Prop := ∃ sh S', LoadR f sh 6 ∧ WkO b d ⟨id, f, l1, true, (l1 : Int), 0, [], sh⟩ w' S' ∧ (∀ k, S' k → S k ∨ w.heap.size ≤ k) ∧ Turn S w w'
theorem wRestart_down {b d : Nat} {s : Wk} {S : Nat → Prop} (l1 : Nat) (w : World) (h : WkO b d s w S) (hu : s.up = false) (hl : s.life < 1000000) (h1 : s.life + 1 = l1) : Calls Tryz.prog 27 #[.pointer (some ⟨b, 0, none⟩)] w fun e w' => e = .returned (.int .i64 0) ∧ BornP b d s.id s.f l1 w S w' := by
  obtain ⟨qp, mp, SD, SQ, SL, h, s1, s2, s3, s4, s5⟩ := h
  obtain ⟨e1, e2, e3, e4⟩ := h.dn hu
  have hx := h.box
  rw [hu, e1, e2, e3, e4] at hx
  have c2 := hx.c2
  have CS := Lib.hid (wstart_any b d s.id s.f s.life l1 SD w hx h.D h.bD hl h1)
  have IN := Lib.hid (show ∀ k, SD k ∨ k = b → S k from fun k hk => hk.elim (s2 k) (fun e => by rw [e]; exact s1))
  clear h hx hu hl h1 s1 s2 s3 s4 s5
  go_enter Tryz.func27, Tryz.ntmps27
  go_wp2_with fail
  with_reducible refine CS.out.mono ?_
  rintro e w' ⟨rfl, sh, S', hr, hk, hs, ht⟩
  have FIN := Lib.hid (show BornP b d s.id s.f l1 w S w' from ⟨sh, S', hr, hk, fun k hk => (hs k hk).imp (IN.out k) id, ht.mono IN.out⟩)
  clear hr hk hs ht CS
  go_wp2_with fail
  go_ret
  exact ⟨rfl, FIN.out⟩
def NewW (w : World) (c : Cfg) (x : Int) (K : List Nat) (e : Ending) (w' : World) : Prop := ∃ b d f sh S, e = .returned (.tuple #[.pointer (some ⟨b, 0, none⟩), .int .i64 0]) ∧ NewF c K f ∧ LoadR f sh 6 ∧ WkO b d ⟨x, f, 1, true, 1, 0, [], sh⟩ w' S ∧ (∀ k, S k → w.heap.size ≤ k) ∧ Below w.heap.size w w'
set_option maxHeartbeats 1600000 in
theorem wnew_good (c : Cfg) (x : Int) (W C : Nat) (K : List Nat) (w : World) (h : CfgOk w c) (hm : c.may = true) (hW : c.W = (W : Int)) (hC : c.C = (C : Int)) (hx1 : 1 ≤ x) (hx2 : x ≤ c.W) (hK : Pl.keep W C (c.kn + 1) x = K) :
    Calls Tryz.prog 13 #[.agg #[.slice c.wa c.wn c.wc, .slice c.ka c.kn c.kc, .int .i64 c.W, .int .i64 c.C, .int .i64 c.S, .int .i64 c.B, .int .i64 c.L, .int .i64 c.H, .int .i64 c.F, .int .i64 c.P, .int .i64 c.J, .int .i64 c.N], .int .i64 x] w (NewW w c x K) := by
  have BX := Lib.hid (below_one w (.cells #[.slice c.wa c.wn c.wc, .slice c.ka c.kn c.kc, .int .i64 c.W, .int .i64 c.C, .int .i64 c.S, .int .i64 c.B, .int .i64 c.L, .int .i64 c.H, .int .i64 c.F, .int .i64 c.P, .int .i64 c.J, .int .i64 c.N] 25))
  have IN := Lib.hid (cfgIn_new w c w.heap.size 25 (0, 0) rfl)
  have CN := Lib.hid (dnew_low c x W C K (w.alloc (.cells #[.slice c.wa c.wn c.wc, .slice c.ka c.kn c.kc, .int .i64 c.W, .int .i64 c.C, .int .i64 c.S, .int .i64 c.B, .int .i64 c.L, .int .i64 c.H, .int .i64 c.F, .int .i64 c.P, .int .i64 c.J, .int .i64 c.N] 25)) (h.below BX.out) hm hW hC hx1 hx2 hK)
  clear h hm hW hC hK hx1 hx2
  go_enter Tryz.func13, Tryz.ntmps13
  go_upto_region 1 with fail
  generalize w.alloc (.cells #[.slice c.wa c.wn c.wc, .slice c.ka c.kn c.kc, .int .i64 c.W, .int .i64 c.C, .int .i64 c.S, .int .i64 c.B, .int .i64 c.L, .int .i64 c.H, .int .i64 c.F, .int .i64 c.P, .int .i64 c.J, .int .i64 c.N] 25) = w1 at *
  obtain ⟨p, hp⟩ : ∃ p, w.heap.size = p := ⟨_, rfl⟩
  have HP := Lib.hid hp
  rw [hp] at IN
  try simp only [hp]
  have hI := IN.out
  unfold CfgIn at hI
  obtain ⟨i0, i1, i2, i3, i4, i5, i6, i7, i8, i9, i10, i11⟩ := hI
  clear hp
  go_wp2_with fail
  with_reducible refine CN.out.mono ?_
  rintro e w2 ⟨d, M, n, f, rfl, hD, hF, hb⟩
  have D2 := Lib.hid (show DO d f 0 w2 (fun k => w1.heap.size ≤ k ∧ k < w2.heap.size) from ⟨M, n, hD.base (Nat.zero_le _), ⟨hD.dB, lt_of_cell hD.c0⟩, ⟨hD.MB, hD.m.lt⟩, fun x i e => ⟨fun k o e2 => ⟨(hF.2 x i e).1 k o e2, by
      obtain ⟨q, o2, e3, hc⟩ := (hD.im x i e).o.at (by have := (hD.im x i e).lo; omega)
      rw [e2] at e3
      injection e3 with e3; injection e3 with e3 e4; subst e3
      exact lt_of_cell (hc 0 (by have := (hD.im x i e).lo; omega))⟩, fun k o e2 => ⟨(hF.2 x i e).2 k o e2, by
      obtain ⟨q, o2, e3, hc⟩ := (hD.im x i e).s.at (by have := (hD.im x i e).lo; have := (hD.im x i e).eq; omega)
      rw [e2] at e3
      injection e3 with e3; injection e3 with e3 e4; subst e3
      exact lt_of_cell (hc 0 (by have := (hD.im x i e).lo; have := (hD.im x i e).eq; omega))⟩⟩, fun k hk => hk.2⟩)
  have F2 := Lib.hid hF.1
  have B2 := Lib.hid (BX.out.trans (hb.mono BX.out.size))
  have LE := Lib.hid (show w.heap.size ≤ w1.heap.size ∧ w1.heap.size ≤ w2.heap.size from ⟨BX.out.size, hb.size⟩)
  clear hD hF hb CN i0 i1 i2 i3 i4 i5 i6 i7 i8 i9 i10 i11 IN
  go_upto_region 5 with fail
  have bw := below_one w2 (.cells (wkCells d x false 0 0 none none) 95)
  have X3 := Lib.hid (show WBox (w2.alloc (.cells (wkCells d x false 0 0 none none) 95)) w2.heap.size d x false 0 0 none none from heap_alloc_new w2 _)
  have D3 := Lib.hid ((do_ok _ _ _).below D2.out bw)
  have B3 := Lib.hid (B2.out.trans (bw.mono B2.out.size))
  obtain ⟨b, hb⟩ : ∃ b, w2.heap.size = b := ⟨_, rfl⟩
  have L3 := Lib.hid (show b < (w2.alloc (.cells (wkCells d x false 0 0 none none) 95)).heap.size from by rw [← hb]; simp)
  rw [hb] at X3 LE D3
  obtain ⟨w3, hw3⟩ : ∃ w3, w2.alloc (.cells (wkCells d x false 0 0 none none) 95) = w3 := ⟨_, rfl⟩
  rw [hw3] at X3 D3 B3 L3
  have CS := Lib.hid (wstart_any b d x f 0 1 (fun k => w1.heap.size ≤ k ∧ k < b) w3 X3.out D3.out (fun e => by omega) (by omega) rfl)
  have hw4 : w2.alloc (.cells #[.int .i64 x, .pointer (some ⟨d, 0, none⟩), .bool false, .int .i64 0, .int .i64 0, .pointer none, .map none] 95) = w3 := hw3
  try rw [hw4]
  try rw [hb]
  clear bw hw3 hw4 hb D2 B2
  go_wp2_with fail
  with_reducible refine CS.out.mono ?_
  rintro e w4 ⟨rfl, sh, S', hr, hk, hs, ht⟩
  have FIN := Lib.hid (show NewW w c x K (.returned (.tuple #[.pointer (some ⟨b, 0, none⟩), .int .i64 0])) w4 from ⟨b, d, f, sh, S', rfl, F2.out, hr, hk, fun k hk2 => by
      have h1 := LE.out
      have h2 := L3.out
      rcases hs k hk2 with (h3 | h3) | h3
      · have := h3.1; omega
      · omega
      · omega, B3.out.trans ((ht.below (B := w.heap.size) (fun k hk2 => by
      have h1 := LE.out
      rcases hk2 with h3 | h3
      · have := h3.1; omega
      · omega) B3.out.size))⟩)
  clear hr hk hs ht CS
  go_wp2_with fail
  go_ret2
  exact FIN.out
end Go.Proofs.YtgnaiahnednllaaGreat
namespace Go.Proofs.YtgnaiahnednllaaGreat
open Go.RowKit
set_option linter.unusedVariables false
set_option maxRecDepth 20000
/-- an Ask of numbers alone -/
def A4 (s q d t : Int) : AskP := ⟨s, q, d, t, 0, ⟨#[]⟩, 0, 0, false, 0, ⟨#[]⟩⟩
end Go.Proofs.YtgnaiahnednllaaGreat
namespace Go.Proofs.YtgnaiahnednllaaGreat
open Go.RowKit
set_option linter.unusedVariables false
set_option maxRecDepth 20000
def RetWs (w : World) (ts : List Tx) (k : Int) (e : Ending) (w' : World) : Prop := ∃ a c, e = .returned (.tuple #[.slice a ts.length c, .int .i64 k]) ∧ w'.ownsRow w.heap.size 9 1 (.slice a ts.length c) ts.length (strsV ts) ∧ Below w.heap.size w w'
theorem retWs_none {w w' : World} {k : Int} (hb : Below w.heap.size w w') : RetWs w [] k (.returned (.tuple #[.slice none 0 0, .int .i64 k])) w' := ⟨none, 0, rfl, World.ownsRow_nil _ _ _ _, hb⟩
def Wk.served (s : Wk) (x : Int) : Bool := match s.sh x with
  | some l => l.g.isSome
  | none => false
/-- what holds of what is loaded -/
structure Wk.Ok (s : Wk) : Prop where
  g : ∀ x l, s.sh x = some l → l.e = 0 → ∃ g, l.g = some g
  z : ∀ x l, s.sh x = some l → l.e ≠ 0 → l.g = none
  q : Qu.Good s.q
  sv : ∀ x ∈ s.q, s.served x.shard = true ∧ wfI x.shard ∧ x.text.size ≤ 1100
theorem wWords_nil (x : Int) (w : World) : Calls Tryz.prog 21 #[.pointer none, .int .i64 x] w (RetWs w [] 1) := by
  go_enter Tryz.func21, Tryz.ntmps21
  go_wp2_with fail
  go_ret2
  exact retWs_none (Below.refl _ _)
theorem WkO.load {b d : Nat} {s : Wk} {w : World} {S : Nat → Prop} (h : WkO b d s w S) (hu : s.up = true) : ∃ q mm SQ SL, WBox w b d s.id true s.wl s.ep (some q) (some mm) ∧ QAt w q s.q SQ ∧ LO mm s.sh w SL := by
  obtain ⟨qp, mp, SD, SQ, SL, h, -⟩ := h
  obtain ⟨q, e1, hq⟩ := h.Q hu
  obtain ⟨mm, e2, hl⟩ := h.L hu
  subst e1 e2
  exact ⟨q, mm, SQ, SL, hu ▸ h.box, hq, hl⟩
theorem wWaiting_nil (w : World) : Calls Tryz.prog 29 #[.pointer none] w fun e w' => e = .returned (.slice none 0 0) ∧ w = w' := by
  go_enter Tryz.func29, Tryz.ntmps29
  go_wp2_with fail
  refine (wUp_nil w).mono ?_
  rintro e w' ⟨rfl, rfl⟩
  go_wp2_with fail
  go_ret
  exact ⟨rfl, rfl⟩
/-- the requests that wait -/
def Wk.waits (s : Wk) : List AskP := if s.up = true then s.q else []
theorem wWaiting_o {b d : Nat} {s : Wk} {S : Nat → Prop} (L : List AskP) (w : World) (h : WkO b d s w S) (ok : s.Ok) (hL : s.waits = L) : Calls Tryz.prog 29 #[.pointer (some ⟨b, 0, none⟩)] w (RetA w L) := by
  obtain ⟨u, hu⟩ : ∃ u, s.up = u := ⟨_, rfl⟩
  have CU := Lib.hid (wUp_o u w h hu)
  unfold Wk.waits at hL
  cases u
  · rw [if_neg (by rw [hu]; exact Bool.false_ne_true)] at hL
    subst hL
    clear h hu
    go_enter Tryz.func29, Tryz.ntmps29
    go_wp2_with fail
    with_reducible refine CU.out.mono ?_
    rintro e w' ⟨rfl, rfl⟩
    go_wp2_with fail
    go_ret
    exact ⟨none, 0, rfl, World.ownsRow_nil _ _ _ _, Below.refl _ _⟩
  · rw [if_pos hu] at hL
    obtain ⟨q, mm, SQ, SL, hb, hq, -⟩ := h.load hu
    have c5 := hb.c5
    rw [hL] at hq
    have CA := Lib.hid (qAll_any q w hq (hL ▸ ok.q))
    clear h hu hb hq hL ok
    go_enter Tryz.func29, Tryz.ntmps29
    go_wp2_with fail
    with_reducible refine CU.out.mono ?_
    rintro e w' ⟨rfl, rfl⟩
    go_wp2_with fail
    with_reducible refine CA.out.mono ?_
    rintro e w2 ⟨a, c, rfl, ho, hb⟩
    have FIN := Lib.hid (show RetA w L (.returned (.slice a L.length c)) w2 from ⟨a, c, rfl, ho, hb⟩)
    clear ho hb CA
    go_wp2_with fail
    go_ret
    exact FIN.out
end Go.Proofs.YtgnaiahnednllaaGreat
namespace Go.Proofs.YtgnaiahnednllaaGreat
open Go.RowKit
set_option linter.unusedVariables false
set_option maxRecDepth 20000
def inR (x lo hi : Int) : Bool := decide (lo ≤ x ∧ x ≤ hi)
theorem min_lit (n lo hi : Int) (c : Bool) (w : World) (h : inR n lo hi = c) :
    Calls Tryz.prog 64 #[.int .i64 n, .int .i64 lo, .int .i64 hi] w fun e w' => e = .returned (.bool c) ∧ w = w' := by
  unfold inR at h
  subst h
  go_enter Tryz.func64, Tryz.ntmps64
  go_wp2
  all_goals (go_ret; exact ⟨ret_bool (by simp; try omega), rfl⟩)
theorem isNumber_lit (n : Int) (c : Bool) (w : World) (h : inR n 0 2147483647 = c) : Calls Tryz.prog 115 #[.int .i64 n] w fun e w' => e = .returned (.bool c) ∧ w = w' := by
  have C := Lib.hid (min_lit n 0 2147483647 c w h)
  clear h
  go_enter Tryz.func115, Tryz.ntmps115
  go_wp2_with fail
  refine C.out.mono ?_
  rintro e w' ⟨rfl, rfl⟩
  go_wp2_with fail
  go_ret
  exact ⟨rfl, rfl⟩
theorem isWorker_lit (n : Int) (c : Bool) (w : World) (h : inR n 1 5 = c) : Calls Tryz.prog 114 #[.int .i64 n] w fun e w' => e = .returned (.bool c) ∧ w = w' := by
  have C := Lib.hid (min_lit n 1 5 c w h)
  clear h
  go_enter Tryz.func114, Tryz.ntmps114
  go_wp2_with fail
  refine C.out.mono ?_
  rintro e w' ⟨rfl, rfl⟩
  go_wp2_with fail
  go_ret
  exact ⟨rfl, rfl⟩
theorem isSlot_lit (n : Int) (c : Bool) (w : World) (h : inR n 0 3 = c) : Calls Tryz.prog 116 #[.int .i64 n] w fun e w' => e = .returned (.bool c) ∧ w = w' := by
  have C := Lib.hid (min_lit n 0 3 c w h)
  clear h
  go_enter Tryz.func116, Tryz.ntmps116
  go_wp2_with fail
  refine C.out.mono ?_
  rintro e w' ⟨rfl, rfl⟩
  go_wp2_with fail
  go_ret
  exact ⟨rfl, rfl⟩
theorem isShard_lit (n : Int) (c : Bool) (w : World) (h : inR n 0 5 = c) : Calls Tryz.prog 117 #[.int .i64 n] w fun e w' => e = .returned (.bool c) ∧ w = w' := by
  have C := Lib.hid (min_lit n 0 5 c w h)
  clear h
  go_enter Tryz.func117, Tryz.ntmps117
  go_wp2_with fail
  refine C.out.mono ?_
  rintro e w' ⟨rfl, rfl⟩
  go_wp2_with fail
  go_ret
  exact ⟨rfl, rfl⟩
theorem isDist_lit (n : Int) (c : Bool) (w : World) (h : inR n 0 4 = c) : Calls Tryz.prog 119 #[.int .i64 n] w fun e w' => e = .returned (.bool c) ∧ w = w' := by
  have C := Lib.hid (min_lit n 0 4 c w h)
  clear h
  go_enter Tryz.func119, Tryz.ntmps119
  go_wp2_with fail
  refine C.out.mono ?_
  rintro e w' ⟨rfl, rfl⟩
  go_wp2_with fail
  go_ret
  exact ⟨rfl, rfl⟩
def mayItem (k : KV) : Bool := inR k.1 0 4 && decide (wordP k.2)
theorem box2m (w : World) (u v : Value) (t : TypeId) : (w.alloc (.cells #[u, v] t)).cell? ⟨w.heap.size, 0, none⟩ = some u ∧ (w.alloc (.cells #[u, v] t)).cell? ⟨w.heap.size, 1, none⟩ = some v := ⟨by rw [World.cell?_alloc_mark]; rfl, by rw [World.cell?_alloc_mark]; rfl⟩
theorem validItem_lit (k1 : Int) (k2 : Tx) (c : Bool) (w : World) (hs : k2.size ≤ 9223372036854775807) (h : mayItem (k1, k2) = c) :
    Calls Tryz.prog 167 #[.agg #[.int .i64 k1, .string k2]] w fun e w' => e = .returned (.bool c) ∧ Below w.heap.size w w' := by
  unfold mayItem at h
  simp only at h
  obtain ⟨z1, h1⟩ : ∃ z, inR k1 0 4 = z := ⟨_, rfl⟩
  obtain ⟨z2, h2⟩ : ∃ z, decide (wordP k2) = z := ⟨_, rfl⟩
  rw [h1, h2] at h
  have C1 := Lib.hid (fun w => isDist_lit k1 z1 w h1)
  have C2 := Lib.hid (fun w => word_bool' (w := w) k2 z2 hs h2)
  have BX := Lib.hid (below_one w (.cells #[.int .i64 k1, .string k2] 39))
  clear h1 h2 hs
  cases z1
  · simp only [Bool.false_and] at h
    subst h
    clear C2
    go_enter Tryz.func167, Tryz.ntmps167
    go_wp2_with fail
    refine (C1.out _).mono ?_
    rintro e w' ⟨rfl, rfl⟩
    go_wp2_with fail
    go_ret
    exact ⟨rfl, BX.out⟩
  · simp only [Bool.true_and] at h
    subst h
    go_enter Tryz.func167, Tryz.ntmps167
    go_wp2_with fail
    refine (C1.out _).mono ?_
    rintro e w' ⟨rfl, rfl⟩
    go_wp2_with fail
    refine (C2.out _).mono ?_
    rintro e w' ⟨rfl, hb⟩
    have BE := Lib.hid (BX.out.trans (hb.mono BX.out.size))
    clear hb
    go_wp2_with fail
    go_ret
    exact ⟨rfl, BE.out⟩
def mayAfter (first : Bool) (k : KV) : Bool := if first then (decide (k.1 = 0) && k.2.toList.isEmpty) else mayItem k
theorem validAfter_lit (first : Bool) (k1 : Int) (k2 : Tx) (c : Bool) (w : World) (hs : k2.size ≤ 9223372036854775807) (h : mayAfter first (k1, k2) = c) :
    Calls Tryz.prog 120 #[.bool first, .agg #[.int .i64 k1, .string k2]] w fun e w' => e = .returned (.bool c) ∧ Below w.heap.size w w' := by
  have BX := Lib.hid (below_one w (.cells #[.int .i64 k1, .string k2] 39))
  unfold mayAfter at h
  cases first
  · simp only [Bool.false_eq_true, if_false] at h
    have CI := Lib.hid (fun w => validItem_lit k1 k2 c w hs h)
    clear h hs
    go_enter Tryz.func120, Tryz.ntmps120
    go_wp2_with fail
    refine (CI.out _).mono ?_
    rintro e w' ⟨rfl, hb⟩
    have BE := Lib.hid (BX.out.trans (hb.mono BX.out.size))
    clear hb
    go_wp2_with fail
    go_ret
    exact ⟨rfl, BE.out⟩
  · simp only [if_true] at h
    clear hs
    by_cases e : k1 = 0
    · subst e
      by_cases e2 : k2.toList = []
      · obtain rfl : c = true := by rw [← h]; simp [e2]
        have f1 : k2.toList.isEmpty = true := by simp [e2]
        have f2 : (k2.toList == []) = true := by simp [e2]
        have E2 := Lib.hid e2
        clear h e2
        go_enter Tryz.func120, Tryz.ntmps120
        go_wp2_with fail
        go_ret
        exact ⟨rfl, BX.out⟩
      · obtain rfl : c = false := by rw [← h]; simp [e2]
        have f1 : k2.toList.isEmpty = false := by simp [e2]
        have f2 : (k2.toList == []) = false := by simp [e2]
        have f3 : (!k2.toList.isEmpty) = true := by simp [e2]
        clear h
        go_enter Tryz.func120, Tryz.ntmps120
        go_wp2_with fail
        go_ret
        exact ⟨rfl, BX.out⟩
    · obtain rfl : c = false := by rw [← h]; simp [e]
      have f0 : (k1 == 0) = false := by simpa using e
      clear h
      go_enter Tryz.func120, Tryz.ntmps120
      go_wp2_with fail
      go_ret
      exact ⟨rfl, BX.out⟩
theorem vi_carry {w1 w' w'' : World} {p : Nat} {u v : Value} (h : Below w1.heap.size w1 w' ∧ w'.cell? ⟨p, 0, none⟩ = some u ∧ w'.cell? ⟨p, 1, none⟩ = some v) (hb : Below w'.heap.size w' w'') : Below w1.heap.size w1 w'' ∧ w''.cell? ⟨p, 0, none⟩ = some u ∧ w''.cell? ⟨p, 1, none⟩ = some v :=
  ⟨h.1.trans (hb.mono h.1.size), (hb.cell (p := ⟨p, 0, none⟩) (lt_of_cell h.2.1)).trans h.2.1, (hb.cell (p := ⟨p, 1, none⟩) (lt_of_cell h.2.2)).trans h.2.2⟩
theorem vi_carry2 {w1 w' w'' : World} {p q o : Nat} {u v x y : Value} (h : (Below w1.heap.size w1 w' ∧ w'.cell? ⟨p, 0, none⟩ = some u ∧ w'.cell? ⟨p, 1, none⟩ = some v) ∧ w'.cell? ⟨q, o, none⟩ = some x ∧ w'.cell? ⟨q, o + 1, none⟩ = some y) (hb : Below w'.heap.size w' w'') : (Below w1.heap.size w1 w'' ∧ w''.cell? ⟨p, 0, none⟩ = some u ∧ w''.cell? ⟨p, 1, none⟩ = some v) ∧ w''.cell? ⟨q, o, none⟩ = some x ∧ w''.cell? ⟨q, o + 1, none⟩ = some y :=
  ⟨vi_carry h.1 hb, (hb.cell (p := ⟨q, o, none⟩) (lt_of_cell h.2.1)).trans h.2.1, (hb.cell (p := ⟨q, o + 1, none⟩) (lt_of_cell h.2.2)).trans h.2.2⟩
def stepI (ks : List KV) (i : Nat) : Bool := mayItem (ks.getD i k0) && (decide (i = 0) || lessK (ks.getD (i - 1) k0) (ks.getD i k0))
def fitI (ks : List KV) (n : Nat) : Bool := (List.range n).all (stepI ks)
theorem fitI_succ (ks : List KV) (n : Nat) : fitI ks (n + 1) = (fitI ks n && stepI ks n) := by
  unfold fitI; rw [List.range_succ, List.all_append]; simp
theorem fitI_stop {ks : List KV} {j : Nat} (h : fitI ks j = false) : ∀ n, j ≤ n → fitI ks n = false
  | 0, hj => by obtain rfl : j = 0 := by omega
                exact h
  | n + 1, hj => by
    rcases Nat.eq_or_lt_of_le hj with e | e
    · subst e; exact h
    · rw [fitI_succ, fitI_stop h n (by omega)]; rfl
def mayItems (ks : List KV) : Bool := decide (ks.length ≤ 5) && fitI ks ks.length
set_option maxHeartbeats 3200000 in
theorem validItems_lit (a : Option Addr) (n cap : Nat) (ks : List KV) (c : Bool) (w : World) (hh : HoldsK w a n ks) (hs : ∀ k ∈ ks, k.2.size ≤ 9223372036854775807) (hn : n ≤ 9223372036854775807) (h : mayItems ks = c) :
    Calls Tryz.prog 121 #[.slice a n cap] w fun e w' => e = .returned (.bool c) ∧ Below w.heap.size w w' := by
  have HL := Lib.hid hh.len
  have HH := Lib.hid hh; have HS := Lib.hid hs
  unfold mayItems at h
  rw [hh.len] at h
  clear hh hs
  by_cases h5 : n ≤ 5
  · rw [decide_eq_true h5, Bool.true_and] at h
    have HC := Lib.hid h
    have d1 : decide ((n : Int) > 5) = false := decide_eq_false (by omega)
    have d2 : decide (5 < n) = false := decide_eq_false (by omega)
    clear h
    go_enter Tryz.func121, Tryz.ntmps121
    go_wp2_with fail
    go_loopw [10] (fun iv wr => ∃ j : Nat, j ≤ n ∧ iv = .int .i64 (j : Int) ∧ Hid (fitI ks j = true) ∧ Hid (Below w.heap.size w wr)) (fun iv _ => n - (intOf iv).toNat)
    case atStart => exact ⟨0, by omega, rfl, Lib.hid rfl, Lib.hid (Below.refl _ _)⟩
    case round =>
      obtain ⟨j, hj, rfl, hF, hB⟩ := hrel
      rename World => wr
      by_cases hlt : j < n
      · obtain ⟨qb, qo, rfl, hcc⟩ := HH.out.at (by omega)
        have hcc2 := Lib.hid hcc
        obtain ⟨x0, x1⟩ := hcc j hlt
        obtain ⟨k, hk⟩ : ∃ k, ks.getD j k0 = k := ⟨_, rfl⟩
        have hks := HS.out k (by rw [← hk]; exact getD_memK ks j (by rw [HL.out]; exact hlt))
        have hst := fitI_succ ks j
        rw [hF.out, Bool.true_and] at hst
        unfold stepI at hst
        rw [hk] at x0 x1 hst
        obtain ⟨k1, k2⟩ := k
        simp only at x0 x1 hks
        obtain ⟨z1, hz1⟩ : ∃ z, mayItem (k1, k2) = z := ⟨_, rfl⟩
        rw [hz1] at hst
        have C1 := Lib.hid (fun w => validItem_lit k1 k2 z1 w hks hz1)
        have y0 := (hB.out.cell (p := ⟨qb, qo + j * 2, none⟩) (lt_of_cell x0)).trans x0
        have y1 := (hB.out.cell (p := ⟨qb, qo + j * 2 + 1, none⟩) (lt_of_cell x1)).trans x1
        have n1 : (0 : Int) ≤ (j : Int) := by omega
        have n2 : (j : Int) < (n : Int) := by omega
        have STOP := Lib.hid (fun (h : fitI ks (j + 1) = false) => (show c = false from by rw [← HC.out]; exact fitI_stop h n (by omega)))
        have HST := Lib.hid hst
        have HK := Lib.hid hk
        have BX := Lib.hid (below_one wr (.cells #[.int .i64 k1, .string k2] 39))
        have XB := Lib.hid (box2m wr (.int .i64 k1) (.string k2) 39)
        have BW := Lib.hid (hB.out.trans (BX.out.mono hB.out.size))
        clear x0 x1 hz1 hst hk hks hcc
        go_upto_region 6 with fail
        obtain ⟨b0, b1⟩ := XB.out
        generalize wr.alloc (.cells #[.int .i64 k1, .string k2] 39) = w1 at *
        generalize wr.heap.size = p at *
        have TD := Lib.hid (show Below w1.heap.size w1 w1.drew ∧ w1.drew.cell? ⟨p, 0, none⟩ = some (.int .i64 k1) ∧ w1.drew.cell? ⟨p, 1, none⟩ = some (.string k2) from ⟨(Below.refl _ _).drew, b0, b1⟩)
        cases z1
        · obtain rfl : c = false := STOP.out (by rw [HST.out]; rfl)
          clear y0 y1 STOP HST b0 b1
          refine wp_region_held_drew (S := (fun w' => Below w1.heap.size w1 w' ∧ w'.cell? ⟨p, 0, none⟩ = some (.int .i64 k1) ∧ w'.cell? ⟨p, 1, none⟩ = some (.string k2))) (by kernel_rfl) TD.out (fun hHeld0 => ?_)
          refine wpAnyH_take (i := 0) (oi := { dst := some 15, op := Op.load 39 (Operand.tmp 4), type := 39, pos := "valid.go:45", after := #[], guard := none }) (v := ?va0) rfl (by kernel_rfl) (by kernel_rfl) (by kernel_rfl) (fun _ _ _ h => h) (Or.inl ⟨by rfl, ?hya0⟩) (by assumption) ?resta0
          case hya0 => (intro w hSw; (try dsimp only at hSw); go_simp; (try with_reducible rfl))
          try simp only [Act.put, List.setIfInBounds_toArray, List.set_cons_zero, List.set_cons_succ]
          refine wpAnyH_ready (rs := [1]) (by kernel_rfl) (by simp) ?_
          refine AllReadyH.cons (o := { dst := some 16, op := Op.call { callee := Callee.value (Operand.func 167), args := #[Operand.tmp 15], argTypes := #[39] }, type := 4, pos := "valid.go:45", after := #[{ on := 0, ground := Ground.data }], guard := none }) rfl (fun K hK => ?_) AllReadyH.nil
          go_simp
          go_at_call 167
          refine (C1.out _).mono ?_
          rintro e' w2 ⟨rfl, hb⟩
          go_wp2_with fail
          refine hK.out _ _ ?_ (fun hHeld1 => ?_)
          · exact vi_carry hHeld0 hb
          clear hK K hHeld0 hb
          try simp only [Act.put, List.setIfInBounds_toArray, List.set_cons_zero, List.set_cons_succ]
          refine wpAnyH_take (i := 2) (oi := { dst := some 17, op := Op.unOp UnOp.not 4 (Operand.tmp 16), type := 4, pos := "valid.go:45", after := #[{ on := 1, ground := Ground.data }], guard := none }) (v := ?va2) rfl (by kernel_rfl) (by kernel_rfl) (by kernel_rfl) (fun _ _ _ h => h) (Or.inl ⟨by rfl, ?hya2⟩) (by assumption) ?resta2
          case hya2 => (intro w hSw; (try dsimp only at hSw); go_simp; (try with_reducible rfl))
          try simp only [Act.put, List.setIfInBounds_toArray, List.set_cons_zero, List.set_cons_succ]
          refine wpAnyH_take (i := 3) (oi := { dst := some 18, op := Op.move (Operand.tmp 17), type := 4, pos := "valid.go:45", after := #[{ on := 2, ground := Ground.data }, { on := 1, ground := Ground.chain }], guard := none }) (v := ?va3) rfl (by kernel_rfl) (by kernel_rfl) (by kernel_rfl) (fun _ _ _ h => h) (Or.inl ⟨by rfl, ?hya3⟩) (by assumption) ?resta3
          case hya3 => (intro w hSw; (try dsimp only at hSw); go_simp; (try with_reducible rfl))
          try simp only [Act.put, List.setIfInBounds_toArray, List.set_cons_zero, List.set_cons_succ]
          refine wpAnyH_take (i := 4) (oi := { dst := some 19, op := Op.move (Operand.tmp 3), type := 3, pos := "valid.go:45", after := #[{ on := 3, ground := Ground.guard }], guard := some (3, false) }) rfl (by kernel_rfl) (by kernel_rfl) (by kernel_rfl) (fun _ _ _ h => h) (Or.inr ⟨by rfl, rfl⟩) (by assumption) ?_
          try simp only [Act.put, List.setIfInBounds_toArray, List.set_cons_zero, List.set_cons_succ]
          refine wpAnyH_take (i := 5) (oi := { dst := some 20, op := Op.binOp BinOp.gtr 3 (Operand.tmp 19) (Operand.const (Value.int IntKind.i64 0)) 3, type := 4, pos := "valid.go:45", after := #[{ on := 4, ground := Ground.data }, { on := 3, ground := Ground.guard }], guard := some (3, false) }) rfl (by kernel_rfl) (by kernel_rfl) (by kernel_rfl) (fun _ _ _ h => h) (Or.inr ⟨by rfl, rfl⟩) (by assumption) ?_
          try simp only [Act.put, List.setIfInBounds_toArray, List.set_cons_zero, List.set_cons_succ]
          refine wpAnyH_take (i := 6) (oi := { dst := some 21, op := Op.move (Operand.tmp 20), type := 4, pos := "valid.go:45", after := #[{ on := 5, ground := Ground.data }, { on := 3, ground := Ground.chain }, { on := 3, ground := Ground.guard }], guard := some (3, false) }) rfl (by kernel_rfl) (by kernel_rfl) (by kernel_rfl) (fun _ _ _ h => h) (Or.inr ⟨by rfl, rfl⟩) (by assumption) ?_
          try simp only [Act.put, List.setIfInBounds_toArray, List.set_cons_zero, List.set_cons_succ]
          refine wpAnyH_take (i := 7) (oi := { dst := some 22, op := Op.move (Operand.tmp 0), type := 73, pos := "valid.go:45", after := #[{ on := 6, ground := Ground.guard }], guard := some (6, true) }) rfl (by kernel_rfl) (by kernel_rfl) (by kernel_rfl) (fun _ _ _ h => h) (Or.inr ⟨by rfl, rfl⟩) (by assumption) ?_
          try simp only [Act.put, List.setIfInBounds_toArray, List.set_cons_zero, List.set_cons_succ]
          refine wpAnyH_take (i := 8) (oi := { dst := some 23, op := Op.move (Operand.tmp 3), type := 3, pos := "valid.go:45", after := #[{ on := 6, ground := Ground.guard }], guard := some (6, true) }) rfl (by kernel_rfl) (by kernel_rfl) (by kernel_rfl) (fun _ _ _ h => h) (Or.inr ⟨by rfl, rfl⟩) (by assumption) ?_
          try simp only [Act.put, List.setIfInBounds_toArray, List.set_cons_zero, List.set_cons_succ]
          refine wpAnyH_take (i := 9) (oi := { dst := some 24, op := Op.binOp BinOp.sub 3 (Operand.tmp 23) (Operand.const (Value.int IntKind.i64 1)) 3, type := 3, pos := "valid.go:45", after := #[{ on := 8, ground := Ground.data }, { on := 6, ground := Ground.guard }], guard := some (6, true) }) rfl (by kernel_rfl) (by kernel_rfl) (by kernel_rfl) (fun _ _ _ h => h) (Or.inr ⟨by rfl, rfl⟩) (by assumption) ?_
          try simp only [Act.put, List.setIfInBounds_toArray, List.set_cons_zero, List.set_cons_succ]
          refine wpAnyH_take (i := 10) (oi := { dst := some 25, op := Op.indexAddr 73 (Operand.tmp 22) (Operand.tmp 24), type := 0, pos := "valid.go:45", after := #[{ on := 7, ground := Ground.data }, { on := 9, ground := Ground.data }, { on := 6, ground := Ground.guard }], guard := some (6, true) }) rfl (by kernel_rfl) (by kernel_rfl) (by kernel_rfl) (fun _ _ _ h => h) (Or.inr ⟨by rfl, rfl⟩) (by assumption) ?_
          try simp only [Act.put, List.setIfInBounds_toArray, List.set_cons_zero, List.set_cons_succ]
          refine wpAnyH_take (i := 11) (oi := { dst := some 26, op := Op.load 39 (Operand.tmp 25), type := 39, pos := "valid.go:45", after := #[{ on := 10, ground := Ground.data }, { on := 6, ground := Ground.guard }], guard := some (6, true) }) rfl (by kernel_rfl) (by kernel_rfl) (by kernel_rfl) (fun _ _ _ h => h) (Or.inr ⟨by rfl, rfl⟩) (by assumption) ?_
          try simp only [Act.put, List.setIfInBounds_toArray, List.set_cons_zero, List.set_cons_succ]
          refine wpAnyH_take (i := 12) (oi := { dst := some 27, op := Op.load 39 (Operand.tmp 4), type := 39, pos := "valid.go:45", after := #[{ on := 6, ground := Ground.guard }], guard := some (6, true) }) rfl (by kernel_rfl) (by kernel_rfl) (by kernel_rfl) (fun _ _ _ h => h) (Or.inr ⟨by rfl, rfl⟩) (by assumption) ?_
          try simp only [Act.put, List.setIfInBounds_toArray, List.set_cons_zero, List.set_cons_succ]
          refine wpAnyH_take (i := 13) (oi := { dst := some 28, op := Op.call { callee := Callee.value (Operand.func 38), args := #[Operand.tmp 26, Operand.tmp 27], argTypes := #[39, 39] }, type := 4, pos := "valid.go:45", after := #[{ on := 11, ground := Ground.data }, { on := 12, ground := Ground.data }, { on := 6, ground := Ground.chain }, { on := 6, ground := Ground.guard }], guard := some (6, true) }) rfl (by kernel_rfl) (by kernel_rfl) (by kernel_rfl) (fun _ _ _ h => h) (Or.inr ⟨by rfl, rfl⟩) (by assumption) ?_
          try simp only [Act.put, List.setIfInBounds_toArray, List.set_cons_zero, List.set_cons_succ]
          refine wpAnyH_take (i := 14) (oi := { dst := some 29, op := Op.unOp UnOp.not 4 (Operand.tmp 28), type := 4, pos := "valid.go:45", after := #[{ on := 13, ground := Ground.data }, { on := 6, ground := Ground.guard }], guard := some (6, true) }) rfl (by kernel_rfl) (by kernel_rfl) (by kernel_rfl) (fun _ _ _ h => h) (Or.inr ⟨by rfl, rfl⟩) (by assumption) ?_
          try simp only [Act.put, List.setIfInBounds_toArray, List.set_cons_zero, List.set_cons_succ]
          refine wpAnyH_take (i := 15) (oi := { dst := some 30, op := Op.pick (Operand.tmp 21) (Operand.tmp 29) (Operand.const (Value.bool false)), type := 4, pos := "valid.go:45", after := #[{ on := 6, ground := Ground.data }, { on := 14, ground := Ground.data }, { on := 3, ground := Ground.guard }], guard := some (3, false) }) rfl (by kernel_rfl) (by kernel_rfl) (by kernel_rfl) (fun _ _ _ h => h) (Or.inr ⟨by rfl, rfl⟩) (by assumption) ?_
          try simp only [Act.put, List.setIfInBounds_toArray, List.set_cons_zero, List.set_cons_succ]
          refine wpAnyH_take (i := 16) (oi := { dst := some 31, op := Op.pick (Operand.tmp 18) (Operand.const (Value.bool true)) (Operand.tmp 30), type := 4, pos := "valid.go:45", after := #[{ on := 3, ground := Ground.data }, { on := 15, ground := Ground.data }], guard := none }) (v := ?va16) rfl (by kernel_rfl) (by kernel_rfl) (by kernel_rfl) (fun _ _ _ h => h) (Or.inl ⟨by rfl, ?hya16⟩) (by assumption) ?resta16
          case hya16 => (intro w hSw; (try dsimp only at hSw); go_simp; (try with_reducible rfl))
          try simp only [Act.put, List.setIfInBounds_toArray, List.set_cons_zero, List.set_cons_succ]
          refine wpAnyH_done (by kernel_rfl) ?_ _
          have BF := Lib.hid (BW.out.trans (hHeld1.1.mono BW.out.size))
          clear hHeld1
          go_wp2_with fail
          go_ret
          exact ⟨rfl, BF.out⟩
        · rcases Nat.eq_zero_or_pos j with rfl | hj0
          · have FN := Lib.hid (show fitI ks (0 + 1) = true from by rw [HST.out]; rfl)
            clear y0 y1 STOP HST b0 b1
            refine wp_region_held_drew (S := (fun w' => Below w1.heap.size w1 w' ∧ w'.cell? ⟨p, 0, none⟩ = some (.int .i64 k1) ∧ w'.cell? ⟨p, 1, none⟩ = some (.string k2))) (by kernel_rfl) TD.out (fun hHeld0 => ?_)
            refine wpAnyH_take (i := 0) (oi := { dst := some 15, op := Op.load 39 (Operand.tmp 4), type := 39, pos := "valid.go:45", after := #[], guard := none }) (v := ?vb0) rfl (by kernel_rfl) (by kernel_rfl) (by kernel_rfl) (fun _ _ _ h => h) (Or.inl ⟨by rfl, ?hyb0⟩) (by assumption) ?restb0
            case hyb0 => (intro w hSw; (try dsimp only at hSw); go_simp; (try with_reducible rfl))
            try simp only [Act.put, List.setIfInBounds_toArray, List.set_cons_zero, List.set_cons_succ]
            refine wpAnyH_ready (rs := [1]) (by kernel_rfl) (by simp) ?_
            refine AllReadyH.cons (o := { dst := some 16, op := Op.call { callee := Callee.value (Operand.func 167), args := #[Operand.tmp 15], argTypes := #[39] }, type := 4, pos := "valid.go:45", after := #[{ on := 0, ground := Ground.data }], guard := none }) rfl (fun K hK => ?_) AllReadyH.nil
            go_simp
            go_at_call 167
            refine (C1.out _).mono ?_
            rintro e' w2 ⟨rfl, hb⟩
            go_wp2_with fail
            refine hK.out _ _ ?_ (fun hHeld1 => ?_)
            · exact vi_carry hHeld0 hb
            clear hK K hHeld0 hb
            try simp only [Act.put, List.setIfInBounds_toArray, List.set_cons_zero, List.set_cons_succ]
            refine wpAnyH_take (i := 2) (oi := { dst := some 17, op := Op.unOp UnOp.not 4 (Operand.tmp 16), type := 4, pos := "valid.go:45", after := #[{ on := 1, ground := Ground.data }], guard := none }) (v := ?vb2) rfl (by kernel_rfl) (by kernel_rfl) (by kernel_rfl) (fun _ _ _ h => h) (Or.inl ⟨by rfl, ?hyb2⟩) (by assumption) ?restb2
            case hyb2 => (intro w hSw; (try dsimp only at hSw); go_simp; (try with_reducible rfl))
            try simp only [Act.put, List.setIfInBounds_toArray, List.set_cons_zero, List.set_cons_succ]
            refine wpAnyH_take (i := 3) (oi := { dst := some 18, op := Op.move (Operand.tmp 17), type := 4, pos := "valid.go:45", after := #[{ on := 2, ground := Ground.data }, { on := 1, ground := Ground.chain }], guard := none }) (v := ?vb3) rfl (by kernel_rfl) (by kernel_rfl) (by kernel_rfl) (fun _ _ _ h => h) (Or.inl ⟨by rfl, ?hyb3⟩) (by assumption) ?restb3
            case hyb3 => (intro w hSw; (try dsimp only at hSw); go_simp; (try with_reducible rfl))
            try simp only [Act.put, List.setIfInBounds_toArray, List.set_cons_zero, List.set_cons_succ]
            refine wpAnyH_take (i := 4) (oi := { dst := some 19, op := Op.move (Operand.tmp 3), type := 3, pos := "valid.go:45", after := #[{ on := 3, ground := Ground.guard }], guard := some (3, false) }) (v := ?vb4) rfl (by kernel_rfl) (by kernel_rfl) (by kernel_rfl) (fun _ _ _ h => h) (Or.inl ⟨by rfl, ?hyb4⟩) (by assumption) ?restb4
            case hyb4 => (intro w hSw; (try dsimp only at hSw); go_simp; (try with_reducible rfl))
            try simp only [Act.put, List.setIfInBounds_toArray, List.set_cons_zero, List.set_cons_succ]
            refine wpAnyH_take (i := 5) (oi := { dst := some 20, op := Op.binOp BinOp.gtr 3 (Operand.tmp 19) (Operand.const (Value.int IntKind.i64 0)) 3, type := 4, pos := "valid.go:45", after := #[{ on := 4, ground := Ground.data }, { on := 3, ground := Ground.guard }], guard := some (3, false) }) (v := ?vb5) rfl (by kernel_rfl) (by kernel_rfl) (by kernel_rfl) (fun _ _ _ h => h) (Or.inl ⟨by rfl, ?hyb5⟩) (by assumption) ?restb5
            case hyb5 => (intro w hSw; (try dsimp only at hSw); go_simp; (try with_reducible rfl))
            try simp only [Act.put, List.setIfInBounds_toArray, List.set_cons_zero, List.set_cons_succ]
            refine wpAnyH_take (i := 6) (oi := { dst := some 21, op := Op.move (Operand.tmp 20), type := 4, pos := "valid.go:45", after := #[{ on := 5, ground := Ground.data }, { on := 3, ground := Ground.chain }, { on := 3, ground := Ground.guard }], guard := some (3, false) }) (v := ?vb6) rfl (by kernel_rfl) (by kernel_rfl) (by kernel_rfl) (fun _ _ _ h => h) (Or.inl ⟨by rfl, ?hyb6⟩) (by assumption) ?restb6
            case hyb6 => (intro w hSw; (try dsimp only at hSw); go_simp; (try with_reducible rfl))
            try simp only [Act.put, List.setIfInBounds_toArray, List.set_cons_zero, List.set_cons_succ]
            refine wpAnyH_take (i := 7) (oi := { dst := some 22, op := Op.move (Operand.tmp 0), type := 73, pos := "valid.go:45", after := #[{ on := 6, ground := Ground.guard }], guard := some (6, true) }) rfl (by kernel_rfl) (by kernel_rfl) (by kernel_rfl) (fun _ _ _ h => h) (Or.inr ⟨by rfl, rfl⟩) (by assumption) ?_
            try simp only [Act.put, List.setIfInBounds_toArray, List.set_cons_zero, List.set_cons_succ]
            refine wpAnyH_take (i := 8) (oi := { dst := some 23, op := Op.move (Operand.tmp 3), type := 3, pos := "valid.go:45", after := #[{ on := 6, ground := Ground.guard }], guard := some (6, true) }) rfl (by kernel_rfl) (by kernel_rfl) (by kernel_rfl) (fun _ _ _ h => h) (Or.inr ⟨by rfl, rfl⟩) (by assumption) ?_
            try simp only [Act.put, List.setIfInBounds_toArray, List.set_cons_zero, List.set_cons_succ]
            refine wpAnyH_take (i := 9) (oi := { dst := some 24, op := Op.binOp BinOp.sub 3 (Operand.tmp 23) (Operand.const (Value.int IntKind.i64 1)) 3, type := 3, pos := "valid.go:45", after := #[{ on := 8, ground := Ground.data }, { on := 6, ground := Ground.guard }], guard := some (6, true) }) rfl (by kernel_rfl) (by kernel_rfl) (by kernel_rfl) (fun _ _ _ h => h) (Or.inr ⟨by rfl, rfl⟩) (by assumption) ?_
            try simp only [Act.put, List.setIfInBounds_toArray, List.set_cons_zero, List.set_cons_succ]
            refine wpAnyH_take (i := 10) (oi := { dst := some 25, op := Op.indexAddr 73 (Operand.tmp 22) (Operand.tmp 24), type := 0, pos := "valid.go:45", after := #[{ on := 7, ground := Ground.data }, { on := 9, ground := Ground.data }, { on := 6, ground := Ground.guard }], guard := some (6, true) }) rfl (by kernel_rfl) (by kernel_rfl) (by kernel_rfl) (fun _ _ _ h => h) (Or.inr ⟨by rfl, rfl⟩) (by assumption) ?_
            try simp only [Act.put, List.setIfInBounds_toArray, List.set_cons_zero, List.set_cons_succ]
            refine wpAnyH_take (i := 11) (oi := { dst := some 26, op := Op.load 39 (Operand.tmp 25), type := 39, pos := "valid.go:45", after := #[{ on := 10, ground := Ground.data }, { on := 6, ground := Ground.guard }], guard := some (6, true) }) rfl (by kernel_rfl) (by kernel_rfl) (by kernel_rfl) (fun _ _ _ h => h) (Or.inr ⟨by rfl, rfl⟩) (by assumption) ?_
            try simp only [Act.put, List.setIfInBounds_toArray, List.set_cons_zero, List.set_cons_succ]
            refine wpAnyH_take (i := 12) (oi := { dst := some 27, op := Op.load 39 (Operand.tmp 4), type := 39, pos := "valid.go:45", after := #[{ on := 6, ground := Ground.guard }], guard := some (6, true) }) rfl (by kernel_rfl) (by kernel_rfl) (by kernel_rfl) (fun _ _ _ h => h) (Or.inr ⟨by rfl, rfl⟩) (by assumption) ?_
            try simp only [Act.put, List.setIfInBounds_toArray, List.set_cons_zero, List.set_cons_succ]
            refine wpAnyH_take (i := 13) (oi := { dst := some 28, op := Op.call { callee := Callee.value (Operand.func 38), args := #[Operand.tmp 26, Operand.tmp 27], argTypes := #[39, 39] }, type := 4, pos := "valid.go:45", after := #[{ on := 11, ground := Ground.data }, { on := 12, ground := Ground.data }, { on := 6, ground := Ground.chain }, { on := 6, ground := Ground.guard }], guard := some (6, true) }) rfl (by kernel_rfl) (by kernel_rfl) (by kernel_rfl) (fun _ _ _ h => h) (Or.inr ⟨by rfl, rfl⟩) (by assumption) ?_
            try simp only [Act.put, List.setIfInBounds_toArray, List.set_cons_zero, List.set_cons_succ]
            refine wpAnyH_take (i := 14) (oi := { dst := some 29, op := Op.unOp UnOp.not 4 (Operand.tmp 28), type := 4, pos := "valid.go:45", after := #[{ on := 13, ground := Ground.data }, { on := 6, ground := Ground.guard }], guard := some (6, true) }) rfl (by kernel_rfl) (by kernel_rfl) (by kernel_rfl) (fun _ _ _ h => h) (Or.inr ⟨by rfl, rfl⟩) (by assumption) ?_
            try simp only [Act.put, List.setIfInBounds_toArray, List.set_cons_zero, List.set_cons_succ]
            refine wpAnyH_take (i := 15) (oi := { dst := some 30, op := Op.pick (Operand.tmp 21) (Operand.tmp 29) (Operand.const (Value.bool false)), type := 4, pos := "valid.go:45", after := #[{ on := 6, ground := Ground.data }, { on := 14, ground := Ground.data }, { on := 3, ground := Ground.guard }], guard := some (3, false) }) (v := ?vb15) rfl (by kernel_rfl) (by kernel_rfl) (by kernel_rfl) (fun _ _ _ h => h) (Or.inl ⟨by rfl, ?hyb15⟩) (by assumption) ?restb15
            case hyb15 => (intro w hSw; (try dsimp only at hSw); go_simp; (try with_reducible rfl))
            try simp only [Act.put, List.setIfInBounds_toArray, List.set_cons_zero, List.set_cons_succ]
            refine wpAnyH_take (i := 16) (oi := { dst := some 31, op := Op.pick (Operand.tmp 18) (Operand.const (Value.bool true)) (Operand.tmp 30), type := 4, pos := "valid.go:45", after := #[{ on := 3, ground := Ground.data }, { on := 15, ground := Ground.data }], guard := none }) (v := ?vb16) rfl (by kernel_rfl) (by kernel_rfl) (by kernel_rfl) (fun _ _ _ h => h) (Or.inl ⟨by rfl, ?hyb16⟩) (by assumption) ?restb16
            case hyb16 => (intro w hSw; (try dsimp only at hSw); go_simp; (try with_reducible rfl))
            try simp only [Act.put, List.setIfInBounds_toArray, List.set_cons_zero, List.set_cons_succ]
            refine wpAnyH_done (by kernel_rfl) ?_ _
            have BF := Lib.hid (BW.out.trans (hHeld1.1.mono BW.out.size))
            clear hHeld1
            go_wp2_with fail
            go_roundw
            case rel => exact ⟨1, by omega, by go_num, FN, BF⟩
            case measure => simp [intOf] <;> omega
          · obtain ⟨j', hj'⟩ : ∃ j', j - 1 = j' := ⟨_, rfl⟩
            obtain ⟨z0, z1⟩ := hcc2.out j' (by omega)
            obtain ⟨kp, hkp⟩ : ∃ kp, ks.getD j' k0 = kp := ⟨_, rfl⟩
            rw [hkp] at z0 z1
            obtain ⟨p1, p2⟩ := kp
            simp only at z0 z1
            obtain ⟨zl, hzl⟩ : ∃ z, lessK (p1, p2) (k1, k2) = z := ⟨_, rfl⟩
            have CL := Lib.hid (fun w => iless_lit (p1, p2) (k1, k2) zl w hzl)
            have HST2 := Lib.hid (show fitI ks (j + 1) = zl from by rw [HST.out, hj', hkp, hzl, decide_eq_false (by omega)]; rfl)
            have v0 := (BW.out.cell (p := ⟨qb, qo + j' * 2, none⟩) (lt_of_cell z0)).trans z0
            have v1 := (BW.out.cell (p := ⟨qb, qo + j' * 2 + 1, none⟩) (lt_of_cell z1)).trans z1
            have TE := Lib.hid (show ((Below w1.heap.size w1 w1.drew ∧ w1.drew.cell? ⟨p, 0, none⟩ = some (.int .i64 k1) ∧ w1.drew.cell? ⟨p, 1, none⟩ = some (.string k2)) ∧ w1.drew.cell? ⟨qb, qo + j' * 2, none⟩ = some (.int .i64 p1) ∧ w1.drew.cell? ⟨qb, qo + j' * 2 + 1, none⟩ = some (.string p2)) from ⟨TD.out, v0, v1⟩)
            have e1 : (j : Int) - 1 = (j' : Int) := by omega
            have w1e : IntKind.i64.wrap (j' : Int) = (j' : Int) := IntWalk.i64_in _ (by omega)
            have g1 : decide ((j : Int) > 0) = true := decide_eq_true (by omega)
            have g2 : decide (0 < j) = true := decide_eq_true (by omega)
            have i1 : (0 : Int) ≤ (j' : Int) := by omega
            have i2 : (j' : Int) < (n : Int) := by omega
            have i3 : j' < n := by omega
            have i4 : (0 : Int) ≤ (j : Int) - 1 := by omega
            have i5 : (j : Int) - 1 < (n : Int) := by omega
            clear y0 y1 z0 z1 hkp hzl v0 v1 HST hj0 b0 b1 hj'
            refine wp_region_held_drew (S := (fun w' => (Below w1.heap.size w1 w' ∧ w'.cell? ⟨p, 0, none⟩ = some (.int .i64 k1) ∧ w'.cell? ⟨p, 1, none⟩ = some (.string k2)) ∧ w'.cell? ⟨qb, qo + j' * 2, none⟩ = some (.int .i64 p1) ∧ w'.cell? ⟨qb, qo + j' * 2 + 1, none⟩ = some (.string p2))) (by kernel_rfl) TE.out (fun hHeld0 => ?_)
            refine wpAnyH_take (i := 0) (oi := { dst := some 15, op := Op.load 39 (Operand.tmp 4), type := 39, pos := "valid.go:45", after := #[], guard := none }) (v := ?vc0) rfl (by kernel_rfl) (by kernel_rfl) (by kernel_rfl) (fun _ _ _ h => h) (Or.inl ⟨by rfl, ?hyc0⟩) (by assumption) ?restc0
            case hyc0 => (intro w hSw; (try dsimp only at hSw); go_simp; (try with_reducible rfl))
            try simp only [Act.put, List.setIfInBounds_toArray, List.set_cons_zero, List.set_cons_succ]
            refine wpAnyH_ready (rs := [1]) (by kernel_rfl) (by simp) ?_
            refine AllReadyH.cons (o := { dst := some 16, op := Op.call { callee := Callee.value (Operand.func 167), args := #[Operand.tmp 15], argTypes := #[39] }, type := 4, pos := "valid.go:45", after := #[{ on := 0, ground := Ground.data }], guard := none }) rfl (fun K hK => ?_) AllReadyH.nil
            go_simp
            go_at_call 167
            refine (C1.out _).mono ?_
            rintro e' w2 ⟨rfl, hb⟩
            go_wp2_with fail
            refine hK.out _ _ ?_ (fun hHeld1 => ?_)
            · exact vi_carry2 hHeld0 hb
            clear hK K hHeld0 hb
            try simp only [Act.put, List.setIfInBounds_toArray, List.set_cons_zero, List.set_cons_succ]
            refine wpAnyH_take (i := 2) (oi := { dst := some 17, op := Op.unOp UnOp.not 4 (Operand.tmp 16), type := 4, pos := "valid.go:45", after := #[{ on := 1, ground := Ground.data }], guard := none }) (v := ?vc2) rfl (by kernel_rfl) (by kernel_rfl) (by kernel_rfl) (fun _ _ _ h => h) (Or.inl ⟨by rfl, ?hyc2⟩) (by assumption) ?restc2
            case hyc2 => (intro w hSw; (try dsimp only at hSw); go_simp; (try with_reducible rfl))
            try simp only [Act.put, List.setIfInBounds_toArray, List.set_cons_zero, List.set_cons_succ]
            refine wpAnyH_take (i := 3) (oi := { dst := some 18, op := Op.move (Operand.tmp 17), type := 4, pos := "valid.go:45", after := #[{ on := 2, ground := Ground.data }, { on := 1, ground := Ground.chain }], guard := none }) (v := ?vc3) rfl (by kernel_rfl) (by kernel_rfl) (by kernel_rfl) (fun _ _ _ h => h) (Or.inl ⟨by rfl, ?hyc3⟩) (by assumption) ?restc3
            case hyc3 => (intro w hSw; (try dsimp only at hSw); go_simp; (try with_reducible rfl))
            try simp only [Act.put, List.setIfInBounds_toArray, List.set_cons_zero, List.set_cons_succ]
            refine wpAnyH_take (i := 4) (oi := { dst := some 19, op := Op.move (Operand.tmp 3), type := 3, pos := "valid.go:45", after := #[{ on := 3, ground := Ground.guard }], guard := some (3, false) }) (v := ?vc4) rfl (by kernel_rfl) (by kernel_rfl) (by kernel_rfl) (fun _ _ _ h => h) (Or.inl ⟨by rfl, ?hyc4⟩) (by assumption) ?restc4
            case hyc4 => (intro w hSw; (try dsimp only at hSw); go_simp; (try with_reducible rfl))
            try simp only [Act.put, List.setIfInBounds_toArray, List.set_cons_zero, List.set_cons_succ]
            refine wpAnyH_take (i := 5) (oi := { dst := some 20, op := Op.binOp BinOp.gtr 3 (Operand.tmp 19) (Operand.const (Value.int IntKind.i64 0)) 3, type := 4, pos := "valid.go:45", after := #[{ on := 4, ground := Ground.data }, { on := 3, ground := Ground.guard }], guard := some (3, false) }) (v := ?vc5) rfl (by kernel_rfl) (by kernel_rfl) (by kernel_rfl) (fun _ _ _ h => h) (Or.inl ⟨by rfl, ?hyc5⟩) (by assumption) ?restc5
            case hyc5 => (intro w hSw; (try dsimp only at hSw); go_simp; (try with_reducible rfl))
            try simp only [Act.put, List.setIfInBounds_toArray, List.set_cons_zero, List.set_cons_succ]
            refine wpAnyH_take (i := 6) (oi := { dst := some 21, op := Op.move (Operand.tmp 20), type := 4, pos := "valid.go:45", after := #[{ on := 5, ground := Ground.data }, { on := 3, ground := Ground.chain }, { on := 3, ground := Ground.guard }], guard := some (3, false) }) (v := ?vc6) rfl (by kernel_rfl) (by kernel_rfl) (by kernel_rfl) (fun _ _ _ h => h) (Or.inl ⟨by rfl, ?hyc6⟩) (by assumption) ?restc6
            case hyc6 => (intro w hSw; (try dsimp only at hSw); go_simp; (try with_reducible rfl))
            try simp only [Act.put, List.setIfInBounds_toArray, List.set_cons_zero, List.set_cons_succ]
            refine wpAnyH_take (i := 7) (oi := { dst := some 22, op := Op.move (Operand.tmp 0), type := 73, pos := "valid.go:45", after := #[{ on := 6, ground := Ground.guard }], guard := some (6, true) }) (v := ?vc7) rfl (by kernel_rfl) (by kernel_rfl) (by kernel_rfl) (fun _ _ _ h => h) (Or.inl ⟨by rfl, ?hyc7⟩) (by assumption) ?restc7
            case hyc7 => (intro w hSw; (try dsimp only at hSw); go_simp; (try with_reducible rfl))
            try simp only [Act.put, List.setIfInBounds_toArray, List.set_cons_zero, List.set_cons_succ]
            refine wpAnyH_take (i := 8) (oi := { dst := some 23, op := Op.move (Operand.tmp 3), type := 3, pos := "valid.go:45", after := #[{ on := 6, ground := Ground.guard }], guard := some (6, true) }) (v := ?vc8) rfl (by kernel_rfl) (by kernel_rfl) (by kernel_rfl) (fun _ _ _ h => h) (Or.inl ⟨by rfl, ?hyc8⟩) (by assumption) ?restc8
            case hyc8 => (intro w hSw; (try dsimp only at hSw); go_simp; (try with_reducible rfl))
            try simp only [Act.put, List.setIfInBounds_toArray, List.set_cons_zero, List.set_cons_succ]
            refine wpAnyH_take (i := 9) (oi := { dst := some 24, op := Op.binOp BinOp.sub 3 (Operand.tmp 23) (Operand.const (Value.int IntKind.i64 1)) 3, type := 3, pos := "valid.go:45", after := #[{ on := 8, ground := Ground.data }, { on := 6, ground := Ground.guard }], guard := some (6, true) }) (v := ?vc9) rfl (by kernel_rfl) (by kernel_rfl) (by kernel_rfl) (fun _ _ _ h => h) (Or.inl ⟨by rfl, ?hyc9⟩) (by assumption) ?restc9
            case hyc9 => (intro w hSw; (try dsimp only at hSw); go_simp; (try with_reducible rfl))
            try simp only [Act.put, List.setIfInBounds_toArray, List.set_cons_zero, List.set_cons_succ]
            refine wpAnyH_take (i := 10) (oi := { dst := some 25, op := Op.indexAddr 73 (Operand.tmp 22) (Operand.tmp 24), type := 0, pos := "valid.go:45", after := #[{ on := 7, ground := Ground.data }, { on := 9, ground := Ground.data }, { on := 6, ground := Ground.guard }], guard := some (6, true) }) (v := ?vc10) rfl (by kernel_rfl) (by kernel_rfl) (by kernel_rfl) (fun _ _ _ h => h) (Or.inl ⟨by rfl, ?hyc10⟩) (by assumption) ?restc10
            case hyc10 => (intro w hSw; (try dsimp only at hSw); go_simp; (try with_reducible rfl))
            try simp only [Act.put, List.setIfInBounds_toArray, List.set_cons_zero, List.set_cons_succ]
            refine wpAnyH_take (i := 11) (oi := { dst := some 26, op := Op.load 39 (Operand.tmp 25), type := 39, pos := "valid.go:45", after := #[{ on := 10, ground := Ground.data }, { on := 6, ground := Ground.guard }], guard := some (6, true) }) (v := ?vc11) rfl (by kernel_rfl) (by kernel_rfl) (by kernel_rfl) (fun _ _ _ h => h) (Or.inl ⟨by rfl, ?hyc11⟩) (by assumption) ?restc11
            case hyc11 => (intro w hSw; (try dsimp only at hSw); go_simp; (try with_reducible rfl))
            try simp only [Act.put, List.setIfInBounds_toArray, List.set_cons_zero, List.set_cons_succ]
            refine wpAnyH_take (i := 12) (oi := { dst := some 27, op := Op.load 39 (Operand.tmp 4), type := 39, pos := "valid.go:45", after := #[{ on := 6, ground := Ground.guard }], guard := some (6, true) }) (v := ?vc12) rfl (by kernel_rfl) (by kernel_rfl) (by kernel_rfl) (fun _ _ _ h => h) (Or.inl ⟨by rfl, ?hyc12⟩) (by assumption) ?restc12
            case hyc12 => (intro w hSw; (try dsimp only at hSw); go_simp; (try with_reducible rfl))
            try simp only [Act.put, List.setIfInBounds_toArray, List.set_cons_zero, List.set_cons_succ]
            refine wpAnyH_ready (rs := [13]) (by kernel_rfl) (by simp) ?_
            refine AllReadyH.cons (o := { dst := some 28, op := Op.call { callee := Callee.value (Operand.func 38), args := #[Operand.tmp 26, Operand.tmp 27], argTypes := #[39, 39] }, type := 4, pos := "valid.go:45", after := #[{ on := 11, ground := Ground.data }, { on := 12, ground := Ground.data }, { on := 6, ground := Ground.chain }, { on := 6, ground := Ground.guard }], guard := some (6, true) }) rfl (fun K hK => ?_) AllReadyH.nil
            go_simp
            go_at_call 38
            refine (CL.out _).mono ?_
            rintro e' w3 ⟨rfl, hb⟩
            go_wp2_with fail
            refine hK.out _ _ ?_ (fun hHeld2 => ?_)
            · exact vi_carry2 hHeld1 hb
            clear hK K hHeld1 hb
            try simp only [Act.put, List.setIfInBounds_toArray, List.set_cons_zero, List.set_cons_succ]
            refine wpAnyH_take (i := 14) (oi := { dst := some 29, op := Op.unOp UnOp.not 4 (Operand.tmp 28), type := 4, pos := "valid.go:45", after := #[{ on := 13, ground := Ground.data }, { on := 6, ground := Ground.guard }], guard := some (6, true) }) (v := ?vc14) rfl (by kernel_rfl) (by kernel_rfl) (by kernel_rfl) (fun _ _ _ h => h) (Or.inl ⟨by rfl, ?hyc14⟩) (by assumption) ?restc14
            case hyc14 => (intro w hSw; (try dsimp only at hSw); go_simp; (try with_reducible rfl))
            try simp only [Act.put, List.setIfInBounds_toArray, List.set_cons_zero, List.set_cons_succ]
            refine wpAnyH_take (i := 15) (oi := { dst := some 30, op := Op.pick (Operand.tmp 21) (Operand.tmp 29) (Operand.const (Value.bool false)), type := 4, pos := "valid.go:45", after := #[{ on := 6, ground := Ground.data }, { on := 14, ground := Ground.data }, { on := 3, ground := Ground.guard }], guard := some (3, false) }) (v := ?vc15) rfl (by kernel_rfl) (by kernel_rfl) (by kernel_rfl) (fun _ _ _ h => h) (Or.inl ⟨by rfl, ?hyc15⟩) (by assumption) ?restc15
            case hyc15 => (intro w hSw; (try dsimp only at hSw); go_simp; (try with_reducible rfl))
            try simp only [Act.put, List.setIfInBounds_toArray, List.set_cons_zero, List.set_cons_succ]
            refine wpAnyH_take (i := 16) (oi := { dst := some 31, op := Op.pick (Operand.tmp 18) (Operand.const (Value.bool true)) (Operand.tmp 30), type := 4, pos := "valid.go:45", after := #[{ on := 3, ground := Ground.data }, { on := 15, ground := Ground.data }], guard := none }) (v := ?vc16) rfl (by kernel_rfl) (by kernel_rfl) (by kernel_rfl) (fun _ _ _ h => h) (Or.inl ⟨by rfl, ?hyc16⟩) (by assumption) ?restc16
            case hyc16 => (intro w hSw; (try dsimp only at hSw); go_simp; (try with_reducible rfl))
            try simp only [Act.put, List.setIfInBounds_toArray, List.set_cons_zero, List.set_cons_succ]
            refine wpAnyH_done (by kernel_rfl) ?_ _
            have BF := Lib.hid (BW.out.trans (hHeld2.1.1.mono BW.out.size))
            clear hHeld2
            cases zl
            · obtain rfl : c = false := STOP.out HST2.out
              go_wp2_with fail
              go_ret
              exact ⟨rfl, BF.out⟩
            · go_wp2_with fail
              go_roundw
              case rel => exact ⟨j + 1, by omega, by go_num, HST2, BF⟩
              case measure => simp [intOf] <;> omega
      · obtain rfl : j = n := by omega
        obtain rfl : c = true := by rw [← HC.out]; exact hF.out
        go_wp2_with fail
        go_ret
        exact ⟨rfl, hB.out⟩
  · rw [decide_eq_false h5, Bool.false_and] at h
    subst h
    have d1 : decide ((n : Int) > 5) = true := decide_eq_true (by omega)
    have d2 : decide (5 < n) = true := decide_eq_true (by omega)
    go_enter Tryz.func121, Tryz.ntmps121
    go_wp2_with fail
    go_ret
    exact ⟨rfl, Below.refl _ _⟩
end Go.Proofs.YtgnaiahnednllaaGreat
namespace Go.Proofs.YtgnaiahnednllaaGreat
open Go.RowKit
set_option linter.unusedVariables false
set_option maxRecDepth 20000
/-- a Reply, and where its items lie -/
structure RepP where
  slot : Int
  query : Int
  shard : Int
  seq : Int
  worker : Int
  epoch : Int
  ia : Option Addr
  n : Nat
  ic : Nat
  items : List KV
  fin : Bool
abbrev vHello (a b : Int) : Value := .iface 70 (.agg #[.int .i64 a, .int .i64 b])
abbrev vGrant (a b c : Int) : Value := .iface 65 (.agg #[.int .i64 a, .int .i64 b, .int .i64 c])
abbrev vAsk (x : AskP) : Value := .iface 41 (.agg #[.int .i64 x.slot, .int .i64 x.query, .int .i64 x.shard, .int .i64 x.seq, .int .i64 x.epoch, .string x.text, .int .i64 x.k, .int .i64 x.batch, .bool x.first, .int .i64 x.ad, .string x.aw])
abbrev vReply (x : RepP) : Value := .iface 77 (.agg #[.int .i64 x.slot, .int .i64 x.query, .int .i64 x.shard, .int .i64 x.seq, .int .i64 x.worker, .int .i64 x.epoch, .slice x.ia x.n x.ic, .bool x.fin])
abbrev vStop (a b : Int) : Value := .iface 109 (.agg #[.int .i64 a, .int .i64 b])
abbrev vNum (k : Int) : Value := .iface 3 (.int .i64 k)
theorem taHelloHello (a b : Int) (w : World) : (Instr.typeAssert (.iface 70 (.agg #[.int .i64 a, .int .i64 b])) 20 70 true).run Tryz.prog w = .ok (.tuple #[.agg #[.int .i64 a, .int .i64 b], .bool true]) w := by kernel_rfl
theorem taHelloGrant (a b : Int) (w : World) : (Instr.typeAssert (.iface 70 (.agg #[.int .i64 a, .int .i64 b])) 20 65 true).run Tryz.prog w = .ok (.tuple #[.agg #[.int .i64 0, .int .i64 0, .int .i64 0], .bool false]) w := by kernel_rfl
theorem taHelloAsk (a b : Int) (w : World) : (Instr.typeAssert (.iface 70 (.agg #[.int .i64 a, .int .i64 b])) 20 41 true).run Tryz.prog w = .ok (.tuple #[.agg #[.int .i64 0, .int .i64 0, .int .i64 0, .int .i64 0, .int .i64 0, .string ⟨#[]⟩, .int .i64 0, .int .i64 0, .bool false, .int .i64 0, .string ⟨#[]⟩], .bool false]) w := by kernel_rfl
theorem taHelloReply (a b : Int) (w : World) : (Instr.typeAssert (.iface 70 (.agg #[.int .i64 a, .int .i64 b])) 20 77 true).run Tryz.prog w = .ok (.tuple #[.agg #[.int .i64 0, .int .i64 0, .int .i64 0, .int .i64 0, .int .i64 0, .int .i64 0, .slice none 0 0, .bool false], .bool false]) w := by kernel_rfl
theorem taHelloStop (a b : Int) (w : World) : (Instr.typeAssert (.iface 70 (.agg #[.int .i64 a, .int .i64 b])) 20 109 true).run Tryz.prog w = .ok (.tuple #[.agg #[.int .i64 0, .int .i64 0], .bool false]) w := by kernel_rfl
theorem taGrantHello (a b c : Int) (w : World) : (Instr.typeAssert (.iface 65 (.agg #[.int .i64 a, .int .i64 b, .int .i64 c])) 20 70 true).run Tryz.prog w = .ok (.tuple #[.agg #[.int .i64 0, .int .i64 0], .bool false]) w := by kernel_rfl
theorem taGrantGrant (a b c : Int) (w : World) : (Instr.typeAssert (.iface 65 (.agg #[.int .i64 a, .int .i64 b, .int .i64 c])) 20 65 true).run Tryz.prog w = .ok (.tuple #[.agg #[.int .i64 a, .int .i64 b, .int .i64 c], .bool true]) w := by kernel_rfl
theorem taGrantAsk (a b c : Int) (w : World) : (Instr.typeAssert (.iface 65 (.agg #[.int .i64 a, .int .i64 b, .int .i64 c])) 20 41 true).run Tryz.prog w = .ok (.tuple #[.agg #[.int .i64 0, .int .i64 0, .int .i64 0, .int .i64 0, .int .i64 0, .string ⟨#[]⟩, .int .i64 0, .int .i64 0, .bool false, .int .i64 0, .string ⟨#[]⟩], .bool false]) w := by kernel_rfl
theorem taGrantStop (a b c : Int) (w : World) : (Instr.typeAssert (.iface 65 (.agg #[.int .i64 a, .int .i64 b, .int .i64 c])) 20 109 true).run Tryz.prog w = .ok (.tuple #[.agg #[.int .i64 0, .int .i64 0], .bool false]) w := by kernel_rfl
theorem taAskHello (x : AskP) (w : World) : (Instr.typeAssert (.iface 41 (.agg #[.int .i64 x.slot, .int .i64 x.query, .int .i64 x.shard, .int .i64 x.seq, .int .i64 x.epoch, .string x.text, .int .i64 x.k, .int .i64 x.batch, .bool x.first, .int .i64 x.ad, .string x.aw])) 20 70 true).run Tryz.prog w = .ok (.tuple #[.agg #[.int .i64 0, .int .i64 0], .bool false]) w := by kernel_rfl
theorem taAskGrant (x : AskP) (w : World) : (Instr.typeAssert (.iface 41 (.agg #[.int .i64 x.slot, .int .i64 x.query, .int .i64 x.shard, .int .i64 x.seq, .int .i64 x.epoch, .string x.text, .int .i64 x.k, .int .i64 x.batch, .bool x.first, .int .i64 x.ad, .string x.aw])) 20 65 true).run Tryz.prog w = .ok (.tuple #[.agg #[.int .i64 0, .int .i64 0, .int .i64 0], .bool false]) w := by kernel_rfl
theorem taAskAsk (x : AskP) (w : World) : (Instr.typeAssert (.iface 41 (.agg #[.int .i64 x.slot, .int .i64 x.query, .int .i64 x.shard, .int .i64 x.seq, .int .i64 x.epoch, .string x.text, .int .i64 x.k, .int .i64 x.batch, .bool x.first, .int .i64 x.ad, .string x.aw])) 20 41 true).run Tryz.prog w = .ok (.tuple #[.agg #[.int .i64 x.slot, .int .i64 x.query, .int .i64 x.shard, .int .i64 x.seq, .int .i64 x.epoch, .string x.text, .int .i64 x.k, .int .i64 x.batch, .bool x.first, .int .i64 x.ad, .string x.aw], .bool true]) w := by kernel_rfl
theorem taAskStop (x : AskP) (w : World) : (Instr.typeAssert (.iface 41 (.agg #[.int .i64 x.slot, .int .i64 x.query, .int .i64 x.shard, .int .i64 x.seq, .int .i64 x.epoch, .string x.text, .int .i64 x.k, .int .i64 x.batch, .bool x.first, .int .i64 x.ad, .string x.aw])) 20 109 true).run Tryz.prog w = .ok (.tuple #[.agg #[.int .i64 0, .int .i64 0], .bool false]) w := by kernel_rfl
theorem taReplyHello (x : RepP) (w : World) : (Instr.typeAssert (.iface 77 (.agg #[.int .i64 x.slot, .int .i64 x.query, .int .i64 x.shard, .int .i64 x.seq, .int .i64 x.worker, .int .i64 x.epoch, .slice x.ia x.n x.ic, .bool x.fin])) 20 70 true).run Tryz.prog w = .ok (.tuple #[.agg #[.int .i64 0, .int .i64 0], .bool false]) w := by kernel_rfl
theorem taReplyGrant (x : RepP) (w : World) : (Instr.typeAssert (.iface 77 (.agg #[.int .i64 x.slot, .int .i64 x.query, .int .i64 x.shard, .int .i64 x.seq, .int .i64 x.worker, .int .i64 x.epoch, .slice x.ia x.n x.ic, .bool x.fin])) 20 65 true).run Tryz.prog w = .ok (.tuple #[.agg #[.int .i64 0, .int .i64 0, .int .i64 0], .bool false]) w := by kernel_rfl
theorem taReplyAsk (x : RepP) (w : World) : (Instr.typeAssert (.iface 77 (.agg #[.int .i64 x.slot, .int .i64 x.query, .int .i64 x.shard, .int .i64 x.seq, .int .i64 x.worker, .int .i64 x.epoch, .slice x.ia x.n x.ic, .bool x.fin])) 20 41 true).run Tryz.prog w = .ok (.tuple #[.agg #[.int .i64 0, .int .i64 0, .int .i64 0, .int .i64 0, .int .i64 0, .string ⟨#[]⟩, .int .i64 0, .int .i64 0, .bool false, .int .i64 0, .string ⟨#[]⟩], .bool false]) w := by kernel_rfl
theorem taReplyReply (x : RepP) (w : World) : (Instr.typeAssert (.iface 77 (.agg #[.int .i64 x.slot, .int .i64 x.query, .int .i64 x.shard, .int .i64 x.seq, .int .i64 x.worker, .int .i64 x.epoch, .slice x.ia x.n x.ic, .bool x.fin])) 20 77 true).run Tryz.prog w = .ok (.tuple #[.agg #[.int .i64 x.slot, .int .i64 x.query, .int .i64 x.shard, .int .i64 x.seq, .int .i64 x.worker, .int .i64 x.epoch, .slice x.ia x.n x.ic, .bool x.fin], .bool true]) w := by kernel_rfl
theorem taReplyStop (x : RepP) (w : World) : (Instr.typeAssert (.iface 77 (.agg #[.int .i64 x.slot, .int .i64 x.query, .int .i64 x.shard, .int .i64 x.seq, .int .i64 x.worker, .int .i64 x.epoch, .slice x.ia x.n x.ic, .bool x.fin])) 20 109 true).run Tryz.prog w = .ok (.tuple #[.agg #[.int .i64 0, .int .i64 0], .bool false]) w := by kernel_rfl
theorem taStopHello (a b : Int) (w : World) : (Instr.typeAssert (.iface 109 (.agg #[.int .i64 a, .int .i64 b])) 20 70 true).run Tryz.prog w = .ok (.tuple #[.agg #[.int .i64 0, .int .i64 0], .bool false]) w := by kernel_rfl
theorem taStopGrant (a b : Int) (w : World) : (Instr.typeAssert (.iface 109 (.agg #[.int .i64 a, .int .i64 b])) 20 65 true).run Tryz.prog w = .ok (.tuple #[.agg #[.int .i64 0, .int .i64 0, .int .i64 0], .bool false]) w := by kernel_rfl
theorem taStopAsk (a b : Int) (w : World) : (Instr.typeAssert (.iface 109 (.agg #[.int .i64 a, .int .i64 b])) 20 41 true).run Tryz.prog w = .ok (.tuple #[.agg #[.int .i64 0, .int .i64 0, .int .i64 0, .int .i64 0, .int .i64 0, .string ⟨#[]⟩, .int .i64 0, .int .i64 0, .bool false, .int .i64 0, .string ⟨#[]⟩], .bool false]) w := by kernel_rfl
theorem taStopReply (a b : Int) (w : World) : (Instr.typeAssert (.iface 109 (.agg #[.int .i64 a, .int .i64 b])) 20 77 true).run Tryz.prog w = .ok (.tuple #[.agg #[.int .i64 0, .int .i64 0, .int .i64 0, .int .i64 0, .int .i64 0, .int .i64 0, .slice none 0 0, .bool false], .bool false]) w := by kernel_rfl
theorem taStopStop (a b : Int) (w : World) : (Instr.typeAssert (.iface 109 (.agg #[.int .i64 a, .int .i64 b])) 20 109 true).run Tryz.prog w = .ok (.tuple #[.agg #[.int .i64 a, .int .i64 b], .bool true]) w := by kernel_rfl
theorem taNumHello (k : Int) (w : World) : (Instr.typeAssert (.iface 3 (.int .i64 k)) 20 70 true).run Tryz.prog w = .ok (.tuple #[.agg #[.int .i64 0, .int .i64 0], .bool false]) w := by kernel_rfl
theorem taNumGrant (k : Int) (w : World) : (Instr.typeAssert (.iface 3 (.int .i64 k)) 20 65 true).run Tryz.prog w = .ok (.tuple #[.agg #[.int .i64 0, .int .i64 0, .int .i64 0], .bool false]) w := by kernel_rfl
theorem taNumAsk (k : Int) (w : World) : (Instr.typeAssert (.iface 3 (.int .i64 k)) 20 41 true).run Tryz.prog w = .ok (.tuple #[.agg #[.int .i64 0, .int .i64 0, .int .i64 0, .int .i64 0, .int .i64 0, .string ⟨#[]⟩, .int .i64 0, .int .i64 0, .bool false, .int .i64 0, .string ⟨#[]⟩], .bool false]) w := by kernel_rfl
theorem taNumReply (k : Int) (w : World) : (Instr.typeAssert (.iface 3 (.int .i64 k)) 20 77 true).run Tryz.prog w = .ok (.tuple #[.agg #[.int .i64 0, .int .i64 0, .int .i64 0, .int .i64 0, .int .i64 0, .int .i64 0, .slice none 0 0, .bool false], .bool false]) w := by kernel_rfl
theorem taNumStop (k : Int) (w : World) : (Instr.typeAssert (.iface 3 (.int .i64 k)) 20 109 true).run Tryz.prog w = .ok (.tuple #[.agg #[.int .i64 0, .int .i64 0], .bool false]) w := by kernel_rfl
theorem taNilHello  (w : World) : (Instr.typeAssert .nilIface 20 70 true).run Tryz.prog w = .ok (.tuple #[.agg #[.int .i64 0, .int .i64 0], .bool false]) w := by kernel_rfl
theorem taNilGrant  (w : World) : (Instr.typeAssert .nilIface 20 65 true).run Tryz.prog w = .ok (.tuple #[.agg #[.int .i64 0, .int .i64 0, .int .i64 0], .bool false]) w := by kernel_rfl
theorem taNilAsk  (w : World) : (Instr.typeAssert .nilIface 20 41 true).run Tryz.prog w = .ok (.tuple #[.agg #[.int .i64 0, .int .i64 0, .int .i64 0, .int .i64 0, .int .i64 0, .string ⟨#[]⟩, .int .i64 0, .int .i64 0, .bool false, .int .i64 0, .string ⟨#[]⟩], .bool false]) w := by kernel_rfl
theorem taNilReply  (w : World) : (Instr.typeAssert .nilIface 20 77 true).run Tryz.prog w = .ok (.tuple #[.agg #[.int .i64 0, .int .i64 0, .int .i64 0, .int .i64 0, .int .i64 0, .int .i64 0, .slice none 0 0, .bool false], .bool false]) w := by kernel_rfl
theorem taNilStop  (w : World) : (Instr.typeAssert .nilIface 20 109 true).run Tryz.prog w = .ok (.tuple #[.agg #[.int .i64 0, .int .i64 0], .bool false]) w := by kernel_rfl
def mayHello (a b : Int) : Bool := inR a 1 5 && inR b 0 2147483647
def mayGrant (a b c : Int) : Bool := inR a 1 5 && inR b 0 2147483647 && inR c 0 2147483647
def mayAsk (x : AskP) : Bool := inR x.slot 0 3 && inR x.query 0 2147483647 && inR x.shard 0 5 && inR x.seq 0 2147483647 && inR x.epoch 0 2147483647 && decide (0 ≤ lenS x.text ∧ lenS x.text ≤ 16) && inR x.k 0 4 && inR x.batch 1 5 && mayAfter x.first (x.ad, x.aw)
def mayReply (x : RepP) : Bool := inR x.slot 0 3 && inR x.query 0 2147483647 && inR x.shard 0 5 && inR x.seq 0 2147483647 && inR x.worker 1 5 && inR x.epoch 0 2147483647 && mayItems x.items
def mayStop (a b : Int) : Bool := inR a 0 3 && inR b 0 2147483647
/-- a Hello in a box of its own -/
def HelloIn (w : World) (p : Nat) (a b : Int) : Prop := w.cell? ⟨p, 0, none⟩ = some (.int .i64 a) ∧ w.cell? ⟨p, 1, none⟩ = some (.int .i64 b)
theorem HelloIn_new (w : World) (a b : Int) (p : Nat) (e : TypeId) (fr : Nat × Nat) (hp : p = w.heap.size) : HelloIn (w.alloc (.cells #[.int .i64 a, .int .i64 b] e fr)) p a b := by
  subst hp
  unfold HelloIn
  refine ⟨?_, ?_⟩ <;> (rw [World.cell?_alloc_mark]; rfl)
/-- a Grant in a box of its own -/
def GrantIn (w : World) (p : Nat) (a b c : Int) : Prop := w.cell? ⟨p, 0, none⟩ = some (.int .i64 a) ∧ w.cell? ⟨p, 1, none⟩ = some (.int .i64 b) ∧ w.cell? ⟨p, 2, none⟩ = some (.int .i64 c)
theorem GrantIn.below {w w' : World} {p : Nat} {a b c : Int} (h : GrantIn w p a b c) (hb : Below w.heap.size w w') : GrantIn w' p a b c := by
  unfold GrantIn at *
  obtain ⟨h0, h1, h2⟩ := h
  have lp := lt_of_cell h0
  exact ⟨(hb.cell (p := ⟨p, 0, none⟩) lp).trans h0, (hb.cell (p := ⟨p, 1, none⟩) lp).trans h1, (hb.cell (p := ⟨p, 2, none⟩) lp).trans h2⟩
theorem GrantIn_new (w : World) (a b c : Int) (p : Nat) (e : TypeId) (fr : Nat × Nat) (hp : p = w.heap.size) : GrantIn (w.alloc (.cells #[.int .i64 a, .int .i64 b, .int .i64 c] e fr)) p a b c := by
  subst hp
  unfold GrantIn
  refine ⟨?_, ?_, ?_⟩ <;> (rw [World.cell?_alloc_mark]; rfl)
/-- an Ask in a box of its own -/
def MAskIn (w : World) (p : Nat) (x : AskP) : Prop := w.cell? ⟨p, 0, none⟩ = some (.int .i64 x.slot) ∧ w.cell? ⟨p, 1, none⟩ = some (.int .i64 x.query) ∧ w.cell? ⟨p, 2, none⟩ = some (.int .i64 x.shard) ∧ w.cell? ⟨p, 3, none⟩ = some (.int .i64 x.seq) ∧ w.cell? ⟨p, 4, none⟩ = some (.int .i64 x.epoch) ∧ w.cell? ⟨p, 5, none⟩ = some (.string x.text) ∧ w.cell? ⟨p, 6, none⟩ = some (.int .i64 x.k) ∧ w.cell? ⟨p, 7, none⟩ = some (.int .i64 x.batch) ∧ w.cell? ⟨p, 8, none⟩ = some (.bool x.first) ∧ w.cell? ⟨p, 9, none⟩ = some (.int .i64 x.ad) ∧ w.cell? ⟨p, 10, none⟩ = some (.string x.aw)
theorem MAskIn.below {w w' : World} {p : Nat} {x : AskP} (h : MAskIn w p x) (hb : Below w.heap.size w w') : MAskIn w' p x := by
  unfold MAskIn at *
  obtain ⟨h0, h1, h2, h3, h4, h5, h6, h7, h8, h9, h10⟩ := h
  have lp := lt_of_cell h0
  exact ⟨(hb.cell (p := ⟨p, 0, none⟩) lp).trans h0, (hb.cell (p := ⟨p, 1, none⟩) lp).trans h1, (hb.cell (p := ⟨p, 2, none⟩) lp).trans h2, (hb.cell (p := ⟨p, 3, none⟩) lp).trans h3, (hb.cell (p := ⟨p, 4, none⟩) lp).trans h4, (hb.cell (p := ⟨p, 5, none⟩) lp).trans h5, (hb.cell (p := ⟨p, 6, none⟩) lp).trans h6, (hb.cell (p := ⟨p, 7, none⟩) lp).trans h7, (hb.cell (p := ⟨p, 8, none⟩) lp).trans h8, (hb.cell (p := ⟨p, 9, none⟩) lp).trans h9, (hb.cell (p := ⟨p, 10, none⟩) lp).trans h10⟩
theorem MAskIn_new (w : World) (x : AskP) (p : Nat) (e : TypeId) (fr : Nat × Nat) (hp : p = w.heap.size) : MAskIn (w.alloc (.cells #[.int .i64 x.slot, .int .i64 x.query, .int .i64 x.shard, .int .i64 x.seq, .int .i64 x.epoch, .string x.text, .int .i64 x.k, .int .i64 x.batch, .bool x.first, .int .i64 x.ad, .string x.aw] e fr)) p x := by
  subst hp
  unfold MAskIn
  refine ⟨?_, ?_, ?_, ?_, ?_, ?_, ?_, ?_, ?_, ?_, ?_⟩ <;> (rw [World.cell?_alloc_mark]; rfl)
/-- a Reply in a box of its own -/
def ReplyIn (w : World) (p : Nat) (x : RepP) : Prop := w.cell? ⟨p, 0, none⟩ = some (.int .i64 x.slot) ∧ w.cell? ⟨p, 1, none⟩ = some (.int .i64 x.query) ∧ w.cell? ⟨p, 2, none⟩ = some (.int .i64 x.shard) ∧ w.cell? ⟨p, 3, none⟩ = some (.int .i64 x.seq) ∧ w.cell? ⟨p, 4, none⟩ = some (.int .i64 x.worker) ∧ w.cell? ⟨p, 5, none⟩ = some (.int .i64 x.epoch) ∧ w.cell? ⟨p, 6, none⟩ = some (.slice x.ia x.n x.ic) ∧ w.cell? ⟨p, 7, none⟩ = some (.bool x.fin)
theorem ReplyIn_new (w : World) (x : RepP) (p : Nat) (e : TypeId) (fr : Nat × Nat) (hp : p = w.heap.size) : ReplyIn (w.alloc (.cells #[.int .i64 x.slot, .int .i64 x.query, .int .i64 x.shard, .int .i64 x.seq, .int .i64 x.worker, .int .i64 x.epoch, .slice x.ia x.n x.ic, .bool x.fin] e fr)) p x := by
  subst hp
  unfold ReplyIn
  refine ⟨?_, ?_, ?_, ?_, ?_, ?_, ?_, ?_⟩ <;> (rw [World.cell?_alloc_mark]; rfl)
/-- a Stop in a box of its own -/
def StopIn (w : World) (p : Nat) (a b : Int) : Prop := w.cell? ⟨p, 0, none⟩ = some (.int .i64 a) ∧ w.cell? ⟨p, 1, none⟩ = some (.int .i64 b)
theorem StopIn_new (w : World) (a b : Int) (p : Nat) (e : TypeId) (fr : Nat × Nat) (hp : p = w.heap.size) : StopIn (w.alloc (.cells #[.int .i64 a, .int .i64 b] e fr)) p a b := by
  subst hp
  unfold StopIn
  refine ⟨?_, ?_⟩ <;> (rw [World.cell?_alloc_mark]; rfl)
set_option maxHeartbeats 3200000 in
set_option maxRecDepth 100000 in
theorem validHello (a b : Int) (z : Bool) (w : World) (h : mayHello a b = z) :
    Calls Tryz.prog 74 #[.iface 70 (.agg #[.int .i64 a, .int .i64 b])] w fun e w' => e = .returned (.bool z) ∧ Below w.heap.size w w' := by
  unfold mayHello at h
  obtain ⟨z0, h0⟩ : ∃ z, inR a 1 5 = z := ⟨_, rfl⟩
  obtain ⟨z1, h1⟩ : ∃ z, inR b 0 2147483647 = z := ⟨_, rfl⟩
  rw [h0, h1] at h
  have C0 := Lib.hid (fun w => isWorker_lit a z0 w h0)
  have C1 := Lib.hid (fun w => isNumber_lit b z1 w h1)
  obtain ⟨w3, hw3⟩ : ∃ w3, w.alloc (.cells #[.int .i64 a, .int .i64 b] 70) = w3 := ⟨_, rfl⟩
  have BX := Lib.hid (show Below w.heap.size w w3 from by
    rw [← hw3]
    repeat' (first | exact Below.refl _ _ | refine Below.alloc ?_ (by simp <;> omega) _))
  have XI := Lib.hid (show HelloIn w3 w.heap.size a b from hw3 ▸ HelloIn_new _ a b _ _ (0, 0) rfl)
  have tHello := taHelloHello a b
  clear h0 h1
  go_enter Tryz.func74, Tryz.ntmps74
  go_upto_region 3 with fail
  try rw [hw3]
  clear hw3 tHello
  obtain ⟨p, hp⟩ : ∃ p, w.heap.size = p := ⟨_, rfl⟩
  rw [hp] at XI
  try simp only [hp]
  clear hp
  have hX := XI.out
  unfold HelloIn at hX
  obtain ⟨x0, x1⟩ := hX
  cases z0
  · obtain rfl : z = false := by rw [← h]; simp
    clear h
    go_wp2_with fail
    refine (C0.out _).mono ?_
    rintro e w' ⟨rfl, rfl⟩
    go_wp2_with fail
    go_ret
    exact ⟨rfl, BX.out⟩
  cases z1
  · obtain rfl : z = false := by rw [← h]; simp
    clear h
    go_wp2_with fail
    refine (C0.out _).mono ?_
    rintro e w' ⟨rfl, rfl⟩
    go_wp2_with fail
    refine (C1.out _).mono ?_
    rintro e w' ⟨rfl, rfl⟩
    go_wp2_with fail
    go_ret
    exact ⟨rfl, BX.out⟩
  obtain rfl : z = true := by rw [← h]; rfl
  clear h
  go_wp2_with fail
  refine (C0.out _).mono ?_
  rintro e w' ⟨rfl, rfl⟩
  go_wp2_with fail
  refine (C1.out _).mono ?_
  rintro e w' ⟨rfl, rfl⟩
  go_wp2_with fail
  go_ret
  exact ⟨rfl, BX.out⟩
set_option maxHeartbeats 3200000 in
set_option maxRecDepth 100000 in
theorem validGrant (a b c : Int) (z : Bool) (w : World) (h : mayGrant a b c = z) :
    Calls Tryz.prog 74 #[.iface 65 (.agg #[.int .i64 a, .int .i64 b, .int .i64 c])] w fun e w' => e = .returned (.bool z) ∧ Below w.heap.size w w' := by
  unfold mayGrant at h
  obtain ⟨z0, h0⟩ : ∃ z, inR a 1 5 = z := ⟨_, rfl⟩
  obtain ⟨z1, h1⟩ : ∃ z, inR b 0 2147483647 = z := ⟨_, rfl⟩
  obtain ⟨z2, h2⟩ : ∃ z, inR c 0 2147483647 = z := ⟨_, rfl⟩
  rw [h0, h1, h2] at h
  have C0 := Lib.hid (fun w => isWorker_lit a z0 w h0)
  have C1 := Lib.hid (fun w => isNumber_lit b z1 w h1)
  have C2 := Lib.hid (fun w => isNumber_lit c z2 w h2)
  obtain ⟨w3, hw3⟩ : ∃ w3, (w.alloc (.cells #[.int .i64 0, .int .i64 0] 70)).alloc (.cells #[.int .i64 a, .int .i64 b, .int .i64 c] 65) = w3 := ⟨_, rfl⟩
  have BX := Lib.hid (show Below w.heap.size w w3 from by
    rw [← hw3]
    repeat' (first | exact Below.refl _ _ | refine Below.alloc ?_ (by simp <;> omega) _))
  have XI := Lib.hid (show GrantIn w3 (w.heap.size + 1) a b c from hw3 ▸ GrantIn_new _ a b c _ _ (0, 0) (by simp))
  have tHello := taGrantHello a b c
  have tGrant := taGrantGrant a b c
  clear h0 h1 h2
  go_enter Tryz.func74, Tryz.ntmps74
  go_upto_region 6 with fail
  try rw [hw3]
  clear hw3 tHello tGrant
  obtain ⟨p, hp⟩ : ∃ p, w.heap.size + 1 = p := ⟨_, rfl⟩
  rw [hp] at XI
  try simp only [hp]
  clear hp
  have hX := XI.out
  unfold GrantIn at hX
  obtain ⟨x0, x1, x2⟩ := hX
  cases z0
  · obtain rfl : z = false := by rw [← h]; simp
    clear h
    go_wp2_with fail
    refine (C0.out _).mono ?_
    rintro e w' ⟨rfl, rfl⟩
    go_wp2_with fail
    go_ret
    exact ⟨rfl, BX.out⟩
  cases z1
  · obtain rfl : z = false := by rw [← h]; simp
    clear h
    go_wp2_with fail
    refine (C0.out _).mono ?_
    rintro e w' ⟨rfl, rfl⟩
    go_wp2_with fail
    refine (C1.out _).mono ?_
    rintro e w' ⟨rfl, rfl⟩
    go_wp2_with fail
    go_ret
    exact ⟨rfl, BX.out⟩
  cases z2
  · obtain rfl : z = false := by rw [← h]; simp
    clear h
    go_wp2_with fail
    refine (C0.out _).mono ?_
    rintro e w' ⟨rfl, rfl⟩
    go_wp2_with fail
    refine (C1.out _).mono ?_
    rintro e w' ⟨rfl, rfl⟩
    go_wp2_with fail
    refine (C2.out _).mono ?_
    rintro e w' ⟨rfl, rfl⟩
    go_wp2_with fail
    go_ret
    exact ⟨rfl, BX.out⟩
  obtain rfl : z = true := by rw [← h]; rfl
  clear h
  go_wp2_with fail
  refine (C0.out _).mono ?_
  rintro e w' ⟨rfl, rfl⟩
  go_wp2_with fail
  refine (C1.out _).mono ?_
  rintro e w' ⟨rfl, rfl⟩
  go_wp2_with fail
  refine (C2.out _).mono ?_
  rintro e w' ⟨rfl, rfl⟩
  go_wp2_with fail
  go_ret
  exact ⟨rfl, BX.out⟩
set_option maxHeartbeats 3200000 in
set_option maxRecDepth 100000 in
theorem validAsk (x : AskP) (z : Bool) (w : World) (ht : x.text.size ≤ 9223372036854775807) (ha : x.aw.size ≤ 9223372036854775807) (h : mayAsk x = z) :
    Calls Tryz.prog 74 #[.iface 41 (.agg #[.int .i64 x.slot, .int .i64 x.query, .int .i64 x.shard, .int .i64 x.seq, .int .i64 x.epoch, .string x.text, .int .i64 x.k, .int .i64 x.batch, .bool x.first, .int .i64 x.ad, .string x.aw])] w fun e w' => e = .returned (.bool z) ∧ Below w.heap.size w w' := by
  unfold mayAsk at h
  obtain ⟨z0, h0⟩ : ∃ z, inR x.slot 0 3 = z := ⟨_, rfl⟩
  obtain ⟨z1, h1⟩ : ∃ z, inR x.query 0 2147483647 = z := ⟨_, rfl⟩
  obtain ⟨z2, h2⟩ : ∃ z, inR x.shard 0 5 = z := ⟨_, rfl⟩
  obtain ⟨z3, h3⟩ : ∃ z, inR x.seq 0 2147483647 = z := ⟨_, rfl⟩
  obtain ⟨z4, h4⟩ : ∃ z, inR x.epoch 0 2147483647 = z := ⟨_, rfl⟩
  obtain ⟨z5, h5⟩ : ∃ z, decide (0 ≤ lenS x.text ∧ lenS x.text ≤ 16) = z := ⟨_, rfl⟩
  obtain ⟨z6, h6⟩ : ∃ z, inR x.k 0 4 = z := ⟨_, rfl⟩
  obtain ⟨z7, h7⟩ : ∃ z, inR x.batch 1 5 = z := ⟨_, rfl⟩
  obtain ⟨z8, h8⟩ : ∃ z, mayAfter x.first (x.ad, x.aw) = z := ⟨_, rfl⟩
  rw [h0, h1, h2, h3, h4, h5, h6, h7, h8] at h
  have C0 := Lib.hid (fun w => isSlot_lit x.slot z0 w h0)
  have C1 := Lib.hid (fun w => isNumber_lit x.query z1 w h1)
  have C2 := Lib.hid (fun w => isShard_lit x.shard z2 w h2)
  have C3 := Lib.hid (fun w => isNumber_lit x.seq z3 w h3)
  have C4 := Lib.hid (fun w => isNumber_lit x.epoch z4 w h4)
  have C5 := Lib.hid (fun w => asked_lit x.text z5 w ht h5)
  have C6 := Lib.hid (fun w => isDist_lit x.k z6 w h6)
  have C7 := Lib.hid (fun w => min_lit x.batch 1 5 z7 w h7)
  have C8 := Lib.hid (fun w => validAfter_lit x.first x.ad x.aw z8 w ha h8)
  obtain ⟨w3, hw3⟩ : ∃ w3, ((w.alloc (.cells #[.int .i64 0, .int .i64 0] 70)).alloc (.cells #[.int .i64 0, .int .i64 0, .int .i64 0] 65)).alloc (.cells #[.int .i64 x.slot, .int .i64 x.query, .int .i64 x.shard, .int .i64 x.seq, .int .i64 x.epoch, .string x.text, .int .i64 x.k, .int .i64 x.batch, .bool x.first, .int .i64 x.ad, .string x.aw] 41) = w3 := ⟨_, rfl⟩
  have BX := Lib.hid (show Below w.heap.size w w3 from by
    rw [← hw3]
    repeat' (first | exact Below.refl _ _ | refine Below.alloc ?_ (by simp <;> omega) _))
  have XI := Lib.hid (show MAskIn w3 (w.heap.size + 2) x from hw3 ▸ MAskIn_new _ x _ _ (0, 0) (by simp))
  have tHello := taAskHello x
  have tGrant := taAskGrant x
  have tAsk := taAskAsk x
  clear h0 h1 h2 h3 h4 h5 h6 h7 h8 ht ha
  go_enter Tryz.func74, Tryz.ntmps74
  go_upto_region 9 with fail
  try rw [hw3]
  clear hw3 tHello tGrant tAsk
  try simp only [Nat.add_assoc, Nat.reduceAdd]
  obtain ⟨p, hp⟩ : ∃ p, w.heap.size + 2 = p := ⟨_, rfl⟩
  rw [hp] at XI
  try simp only [hp]
  clear hp
  have hX := XI.out
  unfold MAskIn at hX
  obtain ⟨x0, x1, x2, x3, x4, x5, x6, x7, x8, x9, x10⟩ := hX
  cases z0
  · obtain rfl : z = false := by rw [← h]; simp
    clear h
    go_wp2_with fail
    refine (C0.out _).mono ?_
    rintro e w' ⟨rfl, rfl⟩
    go_wp2_with fail
    go_ret
    exact ⟨rfl, BX.out⟩
  cases z1
  · obtain rfl : z = false := by rw [← h]; simp
    clear h
    go_wp2_with fail
    refine (C0.out _).mono ?_
    rintro e w' ⟨rfl, rfl⟩
    go_wp2_with fail
    refine (C1.out _).mono ?_
    rintro e w' ⟨rfl, rfl⟩
    go_wp2_with fail
    go_ret
    exact ⟨rfl, BX.out⟩
  cases z2
  · obtain rfl : z = false := by rw [← h]; simp
    clear h
    go_wp2_with fail
    refine (C0.out _).mono ?_
    rintro e w' ⟨rfl, rfl⟩
    go_wp2_with fail
    refine (C1.out _).mono ?_
    rintro e w' ⟨rfl, rfl⟩
    go_wp2_with fail
    refine (C2.out _).mono ?_
    rintro e w' ⟨rfl, rfl⟩
    go_wp2_with fail
    go_ret
    exact ⟨rfl, BX.out⟩
  cases z3
  · obtain rfl : z = false := by rw [← h]; simp
    clear h
    go_wp2_with fail
    refine (C0.out _).mono ?_
    rintro e w' ⟨rfl, rfl⟩
    go_wp2_with fail
    refine (C1.out _).mono ?_
    rintro e w' ⟨rfl, rfl⟩
    go_wp2_with fail
    refine (C2.out _).mono ?_
    rintro e w' ⟨rfl, rfl⟩
    go_wp2_with fail
    refine (C3.out _).mono ?_
    rintro e w' ⟨rfl, rfl⟩
    go_wp2_with fail
    go_ret
    exact ⟨rfl, BX.out⟩
  cases z4
  · obtain rfl : z = false := by rw [← h]; simp
    clear h
    go_wp2_with fail
    refine (C0.out _).mono ?_
    rintro e w' ⟨rfl, rfl⟩
    go_wp2_with fail
    refine (C1.out _).mono ?_
    rintro e w' ⟨rfl, rfl⟩
    go_wp2_with fail
    refine (C2.out _).mono ?_
    rintro e w' ⟨rfl, rfl⟩
    go_wp2_with fail
    refine (C3.out _).mono ?_
    rintro e w' ⟨rfl, rfl⟩
    go_wp2_with fail
    refine (C4.out _).mono ?_
    rintro e w' ⟨rfl, rfl⟩
    go_wp2_with fail
    go_ret
    exact ⟨rfl, BX.out⟩
  cases z5
  · obtain rfl : z = false := by rw [← h]; simp
    clear h
    go_wp2_with fail
    refine (C0.out _).mono ?_
    rintro e w' ⟨rfl, rfl⟩
    go_wp2_with fail
    refine (C1.out _).mono ?_
    rintro e w' ⟨rfl, rfl⟩
    go_wp2_with fail
    refine (C2.out _).mono ?_
    rintro e w' ⟨rfl, rfl⟩
    go_wp2_with fail
    refine (C3.out _).mono ?_
    rintro e w' ⟨rfl, rfl⟩
    go_wp2_with fail
    refine (C4.out _).mono ?_
    rintro e w' ⟨rfl, rfl⟩
    go_wp2_with fail
    refine (C5.out _).mono ?_
    rintro e w15 ⟨rfl, hb⟩
    have B5 := Lib.hid (BX.out.trans (hb.mono BX.out.size))
    have X5 := Lib.hid (XI.out.below hb)
    clear x0 x1 x2 x3 x4 x5 x6 x7 x8 x9 x10
    have hX := X5.out
    unfold MAskIn at hX
    obtain ⟨x0, x1, x2, x3, x4, x5, x6, x7, x8, x9, x10⟩ := hX
    clear hb
    go_wp2_with fail
    go_ret
    exact ⟨rfl, B5.out⟩
  cases z6
  · obtain rfl : z = false := by rw [← h]; simp
    clear h
    go_wp2_with fail
    refine (C0.out _).mono ?_
    rintro e w' ⟨rfl, rfl⟩
    go_wp2_with fail
    refine (C1.out _).mono ?_
    rintro e w' ⟨rfl, rfl⟩
    go_wp2_with fail
    refine (C2.out _).mono ?_
    rintro e w' ⟨rfl, rfl⟩
    go_wp2_with fail
    refine (C3.out _).mono ?_
    rintro e w' ⟨rfl, rfl⟩
    go_wp2_with fail
    refine (C4.out _).mono ?_
    rintro e w' ⟨rfl, rfl⟩
    go_wp2_with fail
    refine (C5.out _).mono ?_
    rintro e w15 ⟨rfl, hb⟩
    have B5 := Lib.hid (BX.out.trans (hb.mono BX.out.size))
    have X5 := Lib.hid (XI.out.below hb)
    clear x0 x1 x2 x3 x4 x5 x6 x7 x8 x9 x10
    have hX := X5.out
    unfold MAskIn at hX
    obtain ⟨x0, x1, x2, x3, x4, x5, x6, x7, x8, x9, x10⟩ := hX
    clear hb
    go_wp2_with fail
    refine (C6.out _).mono ?_
    rintro e w' ⟨rfl, rfl⟩
    go_wp2_with fail
    go_ret
    exact ⟨rfl, B5.out⟩
  cases z7
  · obtain rfl : z = false := by rw [← h]; simp
    clear h
    go_wp2_with fail
    refine (C0.out _).mono ?_
    rintro e w' ⟨rfl, rfl⟩
    go_wp2_with fail
    refine (C1.out _).mono ?_
    rintro e w' ⟨rfl, rfl⟩
    go_wp2_with fail
    refine (C2.out _).mono ?_
    rintro e w' ⟨rfl, rfl⟩
    go_wp2_with fail
    refine (C3.out _).mono ?_
    rintro e w' ⟨rfl, rfl⟩
    go_wp2_with fail
    refine (C4.out _).mono ?_
    rintro e w' ⟨rfl, rfl⟩
    go_wp2_with fail
    refine (C5.out _).mono ?_
    rintro e w15 ⟨rfl, hb⟩
    have B5 := Lib.hid (BX.out.trans (hb.mono BX.out.size))
    have X5 := Lib.hid (XI.out.below hb)
    clear x0 x1 x2 x3 x4 x5 x6 x7 x8 x9 x10
    have hX := X5.out
    unfold MAskIn at hX
    obtain ⟨x0, x1, x2, x3, x4, x5, x6, x7, x8, x9, x10⟩ := hX
    clear hb
    go_wp2_with fail
    refine (C6.out _).mono ?_
    rintro e w' ⟨rfl, rfl⟩
    go_wp2_with fail
    refine (C7.out _).mono ?_
    rintro e w' ⟨rfl, rfl⟩
    go_wp2_with fail
    go_ret
    exact ⟨rfl, B5.out⟩
  cases z8
  · obtain rfl : z = false := by rw [← h]; simp
    clear h
    go_wp2_with fail
    refine (C0.out _).mono ?_
    rintro e w' ⟨rfl, rfl⟩
    go_wp2_with fail
    refine (C1.out _).mono ?_
    rintro e w' ⟨rfl, rfl⟩
    go_wp2_with fail
    refine (C2.out _).mono ?_
    rintro e w' ⟨rfl, rfl⟩
    go_wp2_with fail
    refine (C3.out _).mono ?_
    rintro e w' ⟨rfl, rfl⟩
    go_wp2_with fail
    refine (C4.out _).mono ?_
    rintro e w' ⟨rfl, rfl⟩
    go_wp2_with fail
    refine (C5.out _).mono ?_
    rintro e w15 ⟨rfl, hb⟩
    have B5 := Lib.hid (BX.out.trans (hb.mono BX.out.size))
    have X5 := Lib.hid (XI.out.below hb)
    clear x0 x1 x2 x3 x4 x5 x6 x7 x8 x9 x10
    have hX := X5.out
    unfold MAskIn at hX
    obtain ⟨x0, x1, x2, x3, x4, x5, x6, x7, x8, x9, x10⟩ := hX
    clear hb
    go_wp2_with fail
    refine (C6.out _).mono ?_
    rintro e w' ⟨rfl, rfl⟩
    go_wp2_with fail
    refine (C7.out _).mono ?_
    rintro e w' ⟨rfl, rfl⟩
    go_wp2_with fail
    refine (C8.out _).mono ?_
    rintro e w18 ⟨rfl, hb⟩
    have B8 := Lib.hid (B5.out.trans (hb.mono B5.out.size))
    clear hb
    go_wp2_with fail
    go_ret
    exact ⟨rfl, B8.out⟩
  obtain rfl : z = true := by rw [← h]; rfl
  clear h
  go_wp2_with fail
  refine (C0.out _).mono ?_
  rintro e w' ⟨rfl, rfl⟩
  go_wp2_with fail
  refine (C1.out _).mono ?_
  rintro e w' ⟨rfl, rfl⟩
  go_wp2_with fail
  refine (C2.out _).mono ?_
  rintro e w' ⟨rfl, rfl⟩
  go_wp2_with fail
  refine (C3.out _).mono ?_
  rintro e w' ⟨rfl, rfl⟩
  go_wp2_with fail
  refine (C4.out _).mono ?_
  rintro e w' ⟨rfl, rfl⟩
  go_wp2_with fail
  refine (C5.out _).mono ?_
  rintro e w15 ⟨rfl, hb⟩
  have B5 := Lib.hid (BX.out.trans (hb.mono BX.out.size))
  have X5 := Lib.hid (XI.out.below hb)
  clear x0 x1 x2 x3 x4 x5 x6 x7 x8 x9 x10
  have hX := X5.out
  unfold MAskIn at hX
  obtain ⟨x0, x1, x2, x3, x4, x5, x6, x7, x8, x9, x10⟩ := hX
  clear hb
  go_wp2_with fail
  refine (C6.out _).mono ?_
  rintro e w' ⟨rfl, rfl⟩
  go_wp2_with fail
  refine (C7.out _).mono ?_
  rintro e w' ⟨rfl, rfl⟩
  go_wp2_with fail
  refine (C8.out _).mono ?_
  rintro e w18 ⟨rfl, hb⟩
  have B8 := Lib.hid (B5.out.trans (hb.mono B5.out.size))
  clear hb
  go_wp2_with fail
  go_ret
  exact ⟨rfl, B8.out⟩
set_option maxHeartbeats 3200000 in
set_option maxRecDepth 100000 in
theorem validReply (x : RepP) (z : Bool) (w : World) (hh : HoldsK w x.ia x.n x.items) (hs : ∀ k ∈ x.items, k.2.size ≤ 9223372036854775807) (hn : x.n ≤ 9223372036854775807) (h : mayReply x = z) :
    Calls Tryz.prog 74 #[.iface 77 (.agg #[.int .i64 x.slot, .int .i64 x.query, .int .i64 x.shard, .int .i64 x.seq, .int .i64 x.worker, .int .i64 x.epoch, .slice x.ia x.n x.ic, .bool x.fin])] w fun e w' => e = .returned (.bool z) ∧ Below w.heap.size w w' := by
  unfold mayReply at h
  obtain ⟨z0, h0⟩ : ∃ z, inR x.slot 0 3 = z := ⟨_, rfl⟩
  obtain ⟨z1, h1⟩ : ∃ z, inR x.query 0 2147483647 = z := ⟨_, rfl⟩
  obtain ⟨z2, h2⟩ : ∃ z, inR x.shard 0 5 = z := ⟨_, rfl⟩
  obtain ⟨z3, h3⟩ : ∃ z, inR x.seq 0 2147483647 = z := ⟨_, rfl⟩
  obtain ⟨z4, h4⟩ : ∃ z, inR x.worker 1 5 = z := ⟨_, rfl⟩
  obtain ⟨z5, h5⟩ : ∃ z, inR x.epoch 0 2147483647 = z := ⟨_, rfl⟩
  obtain ⟨z6, h6⟩ : ∃ z, mayItems x.items = z := ⟨_, rfl⟩
  rw [h0, h1, h2, h3, h4, h5, h6] at h
  have C0 := Lib.hid (fun w => isSlot_lit x.slot z0 w h0)
  have C1 := Lib.hid (fun w => isNumber_lit x.query z1 w h1)
  have C2 := Lib.hid (fun w => isShard_lit x.shard z2 w h2)
  have C3 := Lib.hid (fun w => isNumber_lit x.seq z3 w h3)
  have C4 := Lib.hid (fun w => isWorker_lit x.worker z4 w h4)
  have C5 := Lib.hid (fun w => isNumber_lit x.epoch z5 w h5)
  have C6 := Lib.hid (fun w' (hb : Below w.heap.size w w') => validItems_lit x.ia x.n x.ic x.items z6 w' (hh.below hb) hs hn h6)
  obtain ⟨w3, hw3⟩ : ∃ w3, (((w.alloc (.cells #[.int .i64 0, .int .i64 0] 70)).alloc (.cells #[.int .i64 0, .int .i64 0, .int .i64 0] 65)).alloc (.cells #[.int .i64 0, .int .i64 0, .int .i64 0, .int .i64 0, .int .i64 0, .string ⟨#[]⟩, .int .i64 0, .int .i64 0, .bool false, .int .i64 0, .string ⟨#[]⟩] 41)).alloc (.cells #[.int .i64 x.slot, .int .i64 x.query, .int .i64 x.shard, .int .i64 x.seq, .int .i64 x.worker, .int .i64 x.epoch, .slice x.ia x.n x.ic, .bool x.fin] 77) = w3 := ⟨_, rfl⟩
  have BX := Lib.hid (show Below w.heap.size w w3 from by
    rw [← hw3]
    repeat' (first | exact Below.refl _ _ | refine Below.alloc ?_ (by simp <;> omega) _))
  have XI := Lib.hid (show ReplyIn w3 (w.heap.size + 3) x from hw3 ▸ ReplyIn_new _ x _ _ (0, 0) (by simp))
  have tHello := taReplyHello x
  have tGrant := taReplyGrant x
  have tAsk := taReplyAsk x
  have tReply := taReplyReply x
  clear h0 h1 h2 h3 h4 h5 h6 hh hs hn
  go_enter Tryz.func74, Tryz.ntmps74
  go_upto_region 12 with fail
  try rw [hw3]
  clear hw3 tHello tGrant tAsk tReply
  try simp only [Nat.add_assoc, Nat.reduceAdd]
  obtain ⟨p, hp⟩ : ∃ p, w.heap.size + 3 = p := ⟨_, rfl⟩
  rw [hp] at XI
  try simp only [hp]
  clear hp
  have hX := XI.out
  unfold ReplyIn at hX
  obtain ⟨x0, x1, x2, x3, x4, x5, x6, x7⟩ := hX
  cases z0
  · obtain rfl : z = false := by rw [← h]; simp
    clear h
    go_wp2_with fail
    refine (C0.out _).mono ?_
    rintro e w' ⟨rfl, rfl⟩
    go_wp2_with fail
    go_ret
    exact ⟨rfl, BX.out⟩
  cases z1
  · obtain rfl : z = false := by rw [← h]; simp
    clear h
    go_wp2_with fail
    refine (C0.out _).mono ?_
    rintro e w' ⟨rfl, rfl⟩
    go_wp2_with fail
    refine (C1.out _).mono ?_
    rintro e w' ⟨rfl, rfl⟩
    go_wp2_with fail
    go_ret
    exact ⟨rfl, BX.out⟩
  cases z2
  · obtain rfl : z = false := by rw [← h]; simp
    clear h
    go_wp2_with fail
    refine (C0.out _).mono ?_
    rintro e w' ⟨rfl, rfl⟩
    go_wp2_with fail
    refine (C1.out _).mono ?_
    rintro e w' ⟨rfl, rfl⟩
    go_wp2_with fail
    refine (C2.out _).mono ?_
    rintro e w' ⟨rfl, rfl⟩
    go_wp2_with fail
    go_ret
    exact ⟨rfl, BX.out⟩
  cases z3
  · obtain rfl : z = false := by rw [← h]; simp
    clear h
    go_wp2_with fail
    refine (C0.out _).mono ?_
    rintro e w' ⟨rfl, rfl⟩
    go_wp2_with fail
    refine (C1.out _).mono ?_
    rintro e w' ⟨rfl, rfl⟩
    go_wp2_with fail
    refine (C2.out _).mono ?_
    rintro e w' ⟨rfl, rfl⟩
    go_wp2_with fail
    refine (C3.out _).mono ?_
    rintro e w' ⟨rfl, rfl⟩
    go_wp2_with fail
    go_ret
    exact ⟨rfl, BX.out⟩
  cases z4
  · obtain rfl : z = false := by rw [← h]; simp
    clear h
    go_wp2_with fail
    refine (C0.out _).mono ?_
    rintro e w' ⟨rfl, rfl⟩
    go_wp2_with fail
    refine (C1.out _).mono ?_
    rintro e w' ⟨rfl, rfl⟩
    go_wp2_with fail
    refine (C2.out _).mono ?_
    rintro e w' ⟨rfl, rfl⟩
    go_wp2_with fail
    refine (C3.out _).mono ?_
    rintro e w' ⟨rfl, rfl⟩
    go_wp2_with fail
    refine (C4.out _).mono ?_
    rintro e w' ⟨rfl, rfl⟩
    go_wp2_with fail
    go_ret
    exact ⟨rfl, BX.out⟩
  cases z5
  · obtain rfl : z = false := by rw [← h]; simp
    clear h
    go_wp2_with fail
    refine (C0.out _).mono ?_
    rintro e w' ⟨rfl, rfl⟩
    go_wp2_with fail
    refine (C1.out _).mono ?_
    rintro e w' ⟨rfl, rfl⟩
    go_wp2_with fail
    refine (C2.out _).mono ?_
    rintro e w' ⟨rfl, rfl⟩
    go_wp2_with fail
    refine (C3.out _).mono ?_
    rintro e w' ⟨rfl, rfl⟩
    go_wp2_with fail
    refine (C4.out _).mono ?_
    rintro e w' ⟨rfl, rfl⟩
    go_wp2_with fail
    refine (C5.out _).mono ?_
    rintro e w' ⟨rfl, rfl⟩
    go_wp2_with fail
    go_ret
    exact ⟨rfl, BX.out⟩
  cases z6
  · obtain rfl : z = false := by rw [← h]; simp
    clear h
    go_wp2_with fail
    refine (C0.out _).mono ?_
    rintro e w' ⟨rfl, rfl⟩
    go_wp2_with fail
    refine (C1.out _).mono ?_
    rintro e w' ⟨rfl, rfl⟩
    go_wp2_with fail
    refine (C2.out _).mono ?_
    rintro e w' ⟨rfl, rfl⟩
    go_wp2_with fail
    refine (C3.out _).mono ?_
    rintro e w' ⟨rfl, rfl⟩
    go_wp2_with fail
    refine (C4.out _).mono ?_
    rintro e w' ⟨rfl, rfl⟩
    go_wp2_with fail
    refine (C5.out _).mono ?_
    rintro e w' ⟨rfl, rfl⟩
    go_wp2_with fail
    refine (C6.out _ BX.out).mono ?_
    rintro e w16 ⟨rfl, hb⟩
    have B6 := Lib.hid (BX.out.trans (hb.mono BX.out.size))
    clear hb
    go_wp2_with fail
    go_ret
    exact ⟨rfl, B6.out⟩
  obtain rfl : z = true := by rw [← h]; rfl
  clear h
  go_wp2_with fail
  refine (C0.out _).mono ?_
  rintro e w' ⟨rfl, rfl⟩
  go_wp2_with fail
  refine (C1.out _).mono ?_
  rintro e w' ⟨rfl, rfl⟩
  go_wp2_with fail
  refine (C2.out _).mono ?_
  rintro e w' ⟨rfl, rfl⟩
  go_wp2_with fail
  refine (C3.out _).mono ?_
  rintro e w' ⟨rfl, rfl⟩
  go_wp2_with fail
  refine (C4.out _).mono ?_
  rintro e w' ⟨rfl, rfl⟩
  go_wp2_with fail
  refine (C5.out _).mono ?_
  rintro e w' ⟨rfl, rfl⟩
  go_wp2_with fail
  refine (C6.out _ BX.out).mono ?_
  rintro e w16 ⟨rfl, hb⟩
  have B6 := Lib.hid (BX.out.trans (hb.mono BX.out.size))
  clear hb
  go_wp2_with fail
  go_ret
  exact ⟨rfl, B6.out⟩
set_option maxHeartbeats 3200000 in
set_option maxRecDepth 100000 in
theorem validStop (a b : Int) (z : Bool) (w : World) (h : mayStop a b = z) :
    Calls Tryz.prog 74 #[.iface 109 (.agg #[.int .i64 a, .int .i64 b])] w fun e w' => e = .returned (.bool z) ∧ Below w.heap.size w w' := by
  unfold mayStop at h
  obtain ⟨z0, h0⟩ : ∃ z, inR a 0 3 = z := ⟨_, rfl⟩
  obtain ⟨z1, h1⟩ : ∃ z, inR b 0 2147483647 = z := ⟨_, rfl⟩
  rw [h0, h1] at h
  have C0 := Lib.hid (fun w => isSlot_lit a z0 w h0)
  have C1 := Lib.hid (fun w => isNumber_lit b z1 w h1)
  obtain ⟨w3, hw3⟩ : ∃ w3, ((((w.alloc (.cells #[.int .i64 0, .int .i64 0] 70)).alloc (.cells #[.int .i64 0, .int .i64 0, .int .i64 0] 65)).alloc (.cells #[.int .i64 0, .int .i64 0, .int .i64 0, .int .i64 0, .int .i64 0, .string ⟨#[]⟩, .int .i64 0, .int .i64 0, .bool false, .int .i64 0, .string ⟨#[]⟩] 41)).alloc (.cells #[.int .i64 0, .int .i64 0, .int .i64 0, .int .i64 0, .int .i64 0, .int .i64 0, .slice none 0 0, .bool false] 77)).alloc (.cells #[.int .i64 a, .int .i64 b] 109) = w3 := ⟨_, rfl⟩
  have BX := Lib.hid (show Below w.heap.size w w3 from by
    rw [← hw3]
    repeat' (first | exact Below.refl _ _ | refine Below.alloc ?_ (by simp <;> omega) _))
  have XI := Lib.hid (show StopIn w3 (w.heap.size + 4) a b from hw3 ▸ StopIn_new _ a b _ _ (0, 0) (by simp))
  have tHello := taStopHello a b
  have tGrant := taStopGrant a b
  have tAsk := taStopAsk a b
  have tReply := taStopReply a b
  have tStop := taStopStop a b
  clear h0 h1
  go_enter Tryz.func74, Tryz.ntmps74
  go_upto_region 15 with fail
  try rw [hw3]
  clear hw3 tHello tGrant tAsk tReply tStop
  try simp only [Nat.add_assoc, Nat.reduceAdd]
  obtain ⟨p, hp⟩ : ∃ p, w.heap.size + 4 = p := ⟨_, rfl⟩
  rw [hp] at XI
  try simp only [hp]
  clear hp
  have hX := XI.out
  unfold StopIn at hX
  obtain ⟨x0, x1⟩ := hX
  cases z0
  · obtain rfl : z = false := by rw [← h]; simp
    clear h
    go_wp2_with fail
    refine (C0.out _).mono ?_
    rintro e w' ⟨rfl, rfl⟩
    go_wp2_with fail
    go_ret
    exact ⟨rfl, BX.out⟩
  cases z1
  · obtain rfl : z = false := by rw [← h]; simp
    clear h
    go_wp2_with fail
    refine (C0.out _).mono ?_
    rintro e w' ⟨rfl, rfl⟩
    go_wp2_with fail
    refine (C1.out _).mono ?_
    rintro e w' ⟨rfl, rfl⟩
    go_wp2_with fail
    go_ret
    exact ⟨rfl, BX.out⟩
  obtain rfl : z = true := by rw [← h]; rfl
  clear h
  go_wp2_with fail
  refine (C0.out _).mono ?_
  rintro e w' ⟨rfl, rfl⟩
  go_wp2_with fail
  refine (C1.out _).mono ?_
  rintro e w' ⟨rfl, rfl⟩
  go_wp2_with fail
  go_ret
  exact ⟨rfl, BX.out⟩
theorem validNum (k : Int) (w : World) : Calls Tryz.prog 74 #[.iface 3 (.int .i64 k)] w fun e w' => e = .returned (.bool false) ∧ Below w.heap.size w w' := by
  have tHello := taNumHello k
  have tGrant := taNumGrant k
  have tAsk := taNumAsk k
  have tReply := taNumReply k
  have tStop := taNumStop k
  have BX := Lib.hid (show Below w.heap.size w (((((w.alloc (.cells #[.int .i64 0, .int .i64 0] 70)).alloc (.cells #[.int .i64 0, .int .i64 0, .int .i64 0] 65)).alloc (.cells #[.int .i64 0, .int .i64 0, .int .i64 0, .int .i64 0, .int .i64 0, .string ⟨#[]⟩, .int .i64 0, .int .i64 0, .bool false, .int .i64 0, .string ⟨#[]⟩] 41)).alloc (.cells #[.int .i64 0, .int .i64 0, .int .i64 0, .int .i64 0, .int .i64 0, .int .i64 0, .slice none 0 0, .bool false] 77)).alloc (.cells #[.int .i64 0, .int .i64 0] 109)) from by
    repeat' (first | exact Below.refl _ _ | refine Below.alloc ?_ (by simp <;> omega) _))
  go_enter Tryz.func74, Tryz.ntmps74
  go_wp2_with fail
  go_ret
  exact ⟨rfl, BX.out⟩
theorem validNil  (w : World) : Calls Tryz.prog 74 #[.nilIface] w fun e w' => e = .returned (.bool false) ∧ Below w.heap.size w w' := by
  have tHello := taNilHello 
  have tGrant := taNilGrant 
  have tAsk := taNilAsk 
  have tReply := taNilReply 
  have tStop := taNilStop 
  have BX := Lib.hid (show Below w.heap.size w (((((w.alloc (.cells #[.int .i64 0, .int .i64 0] 70)).alloc (.cells #[.int .i64 0, .int .i64 0, .int .i64 0] 65)).alloc (.cells #[.int .i64 0, .int .i64 0, .int .i64 0, .int .i64 0, .int .i64 0, .string ⟨#[]⟩, .int .i64 0, .int .i64 0, .bool false, .int .i64 0, .string ⟨#[]⟩] 41)).alloc (.cells #[.int .i64 0, .int .i64 0, .int .i64 0, .int .i64 0, .int .i64 0, .int .i64 0, .slice none 0 0, .bool false] 77)).alloc (.cells #[.int .i64 0, .int .i64 0] 109)) from by
    repeat' (first | exact Below.refl _ _ | refine Below.alloc ?_ (by simp <;> omega) _))
  go_enter Tryz.func74, Tryz.ntmps74
  go_wp2_with fail
  go_ret
  exact ⟨rfl, BX.out⟩
end Go.Proofs.YtgnaiahnednllaaGreat
namespace Go.Proofs.YtgnaiahnednllaaGreat
open Go.RowKit
set_option linter.unusedVariables false
set_option maxRecDepth 20000
/-- bytes that a slice holds, whoever made them, since w0 -/
structure BB (w0 : World) (bs : List Nat) (a : Option Addr) (c : Nat) (w : World) : Prop where
  h : HoldsB w a bs.length bs
  n : a = none → bs.length = 0 ∧ c = 0
  b : Below w0.heap.size w0 w
def n4 (v : Int) : List Nat := Cod.bytesOf (bitsV v) 4
def n1 (v : Int) : List Nat := Cod.bytesOf (bitsV v) 1
def tB (s : Tx) : List Nat := Cod.bytesOf (cutS s).size 2 ++ strB (cutS s)
end Go.Proofs.YtgnaiahnednllaaGreat
namespace Go.Proofs.YtgnaiahnednllaaGreat
open Go.RowKit
set_option linter.unusedVariables false
set_option maxRecDepth 20000
theorem may_of (V : Value) (z : Bool) (w : World) (CV : Calls Tryz.prog 74 #[V] w fun e w'' => e = .returned (.bool z) ∧ Below w.heap.size w w'') :
    Calls Tryz.prog 32 #[V] w fun e w' => e = .returned (.bool z) ∧ Below w.heap.size w w' := by
  have C := Lib.hid CV
  clear CV
  go_enter Tryz.func32, Tryz.ntmps32
  go_wp2_with fail
  refine C.out.mono ?_
  rintro e w' ⟨rfl, hb⟩
  have B := Lib.hid hb
  clear hb C
  go_wp2_with fail
  go_ret
  exact ⟨rfl, B.out⟩
end Go.Proofs.YtgnaiahnednllaaGreat
namespace Go.Proofs.YtgnaiahnednllaaGreat
open Go.RowKit
set_option linter.unusedVariables false
set_option maxRecDepth 20000
inductive MsgV where
  | hello (a b : Int)
  | grant (a b c : Int)
  | ask (x : AskP)
  | reply (x : RepP)
  | stop (a b : Int)
  | num (k : Int)
  | none
def valM : MsgV → Value
  | .hello a b => vHello a b
  | .grant a b c => vGrant a b c
  | .ask x => vAsk x
  | .reply x => vReply x
  | .stop a b => vStop a b
  | .num k => vNum k
  | .none => .nilIface
def mayM : MsgV → Bool
  | .hello a b => mayHello a b
  | .grant a b c => mayGrant a b c
  | .ask x => mayAsk x
  | .reply x => mayReply x
  | .stop a b => mayStop a b
  | .num _ => false
  | .none => false
/-- what a message holds lies in memory -/
def heldM (w : World) : MsgV → Prop
  | .reply x => HoldsK w x.ia x.n x.items ∧ (x.ia = .none → x.n = 0 ∧ x.ic = 0) ∧ x.n ≤ x.ic
  | _ => True
def smallM : MsgV → Prop
  | .ask x => x.text.size ≤ 1100 ∧ x.aw.size ≤ 1100
  | .reply x => (∀ k ∈ x.items, k.2.size ≤ 1100) ∧ x.n ≤ 1048576
  | _ => True
theorem valid_all (M : MsgV) (w : World) (hh : heldM w M) (hs : smallM M) :
    Calls Tryz.prog 74 #[valM M] w fun e w' => e = .returned (.bool (mayM M)) ∧ Below w.heap.size w w' := by
  cases M with
  | hello a b => exact validHello a b _ w rfl
  | grant a b c => exact validGrant a b c _ w rfl
  | ask x => exact validAsk x _ w (by have := hs.1; omega) (by have := hs.2; omega) rfl
  | reply x => exact validReply x _ w hh.1 (fun k hk => by have := hs.1 k hk; omega) (by have := hs.2; omega) rfl
  | stop a b => exact validStop a b _ w rfl
  | num k => exact validNum k w
  | none => exact validNil w
theorem mayOf_all (M : MsgV) (w : World) (hh : heldM w M) (hs : smallM M) : Calls Tryz.prog 32 #[valM M] w fun e w' => e = .returned (.bool (mayM M)) ∧ Below w.heap.size w w' :=
  may_of _ _ w (valid_all M w hh hs)
end Go.Proofs.YtgnaiahnednllaaGreat
