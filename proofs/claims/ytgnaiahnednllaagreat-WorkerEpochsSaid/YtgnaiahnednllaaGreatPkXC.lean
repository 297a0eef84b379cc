/- texts joined -/
import Derived.WalkKit
import Derived.ProofKit
import Derived.OpenShut
import Derived.Lib.SmallJoins
import Derived.Lib.Hide
import Derived.Test.YtgnaiahnednllaaGreatChecked
import Derived.Maps.OwnSet
import Derived.WalkArith
import Derived.Carry
import Derived.OwnWalk
import Derived.Laws.AppendOwnNone
import Derived.Lib.SliceRun
import Derived.Deep.RegionLaw
import Derived.Outline
import Derived.WalkLawsBesides
import Derived.WalkSpells
import Derived.Deep.QuietTactic
import Derived.BigQuiet
import Derived.Deep.DeepCutAuto
import Derived.Deep.RegionHeld3
import Derived.Deep.AppendLies
import Derived.Laws.ResultCell
import Derived.Laws.BitsAllLaws
import Derived.Laws.DeepBits32
import Derived.Sort.Walk0
import Derived.Laws.RangeAny
import Derived.Lib.DecodeN
import Derived.Lib.OthersKept
import Derived.Deep.Slices
import Derived.SliceStrings
import Derived.Deep.RegionWith
import Derived.Laws.AppendOwn
import Derived.StringKeys
import Derived.Laws.OwnMore
import Derived.DeepKeys4
import Derived.Lib.AppendStr
import Derived.Lib.Strings
import Derived.Lib.ConvBytes
import Derived.Laws.BytesArg
import Derived.Lib.SlBytesRow
import Derived.Shelf.Strings.Builder1
import Derived.Shelf.Strings.BuilderK
import Derived.Shelf.Strings.BuilderRune
import Derived.Shelf.Utf8.AppendRune
import Derived.Lib.RuneBytes
import Derived.Test.YtgnaiahnednllaaGreatPkXB
namespace Go.Proofs.YtgnaiahnednllaaGreat
open Go.RowKit
set_option linter.unusedVariables false
set_option maxRecDepth 20000
namespace Qu
theorem find_mid {A B : List AskP} {x : AskP} (hg : Good (A ++ x :: B)) (s d : Int) : find (A ++ B) s d = if s = x.slot ∧ d = x.shard then none else find (A ++ x :: B) s d := by
  have hp := hg.apart
  rw [List.pairwise_append] at hp
  obtain ⟨h1, h2, h3⟩ := hp
  obtain ⟨h4, h5⟩ := List.pairwise_cons.1 h2
  by_cases e : s = x.slot ∧ d = x.shard
  · rw [if_pos e, find_none]
    obtain ⟨rfl, rfl⟩ := e
    intro y hy h
    rcases List.mem_append.1 hy with hy | hy
    · exact h3 y hy x (by simp) ⟨h.1, h.2⟩
    · exact h4 y hy ⟨h.1.symm, h.2.symm⟩
  · rw [if_neg e]
    unfold find
    rw [List.find?_append, List.find?_append]
    congr 1
    rw [List.find?_cons_of_neg]
    simp only [decide_eq_true_eq]
    exact fun h => e ⟨h.1.symm, h.2.symm⟩
def kept (L : List AskP) (s q : Int) (j : Nat) : List AskP := (L.take j).filter (keeps s q)
def mid (L : List AskP) (s q : Int) (j : Nat) : List AskP := kept L s q j ++ L.drop j
theorem take_get {L : List AskP} {j : Nat} (h : j < L.length) : L.take (j + 1) = L.take j ++ [L.getD j ask0] := by
  rw [List.take_add_one, List.getD_eq_getElem?_getD, List.getElem?_eq_getElem h]; rfl
theorem drop_get {L : List AskP} {j : Nat} (h : j < L.length) : L.drop j = L.getD j ask0 :: L.drop (j + 1) := by
  rw [List.drop_eq_getElem_cons h, List.getD_eq_getElem?_getD, List.getElem?_eq_getElem h]; rfl
theorem kept_yes {L : List AskP} {s q : Int} {j : Nat} (h : j < L.length) (hk : keeps s q (L.getD j ask0) = true) : kept L s q (j + 1) = kept L s q j ++ [L.getD j ask0] := by
  unfold kept; rw [take_get h, List.filter_append]
  congr 1
  rw [List.filter_cons, if_pos hk]; rfl
theorem kept_no {L : List AskP} {s q : Int} {j : Nat} (h : j < L.length) (hk : keeps s q (L.getD j ask0) = false) : kept L s q (j + 1) = kept L s q j := by
  unfold kept; rw [take_get h, List.filter_append]
  have : List.filter (keeps s q) [L.getD j ask0] = [] := by rw [List.filter_cons, hk]; rfl
  rw [this, List.append_nil]
theorem mid_yes {L : List AskP} {s q : Int} {j : Nat} (h : j < L.length) (hk : keeps s q (L.getD j ask0) = true) : mid L s q (j + 1) = mid L s q j := by
  unfold mid; rw [kept_yes h hk, drop_get h, List.append_assoc]; rfl
theorem mid_no {L : List AskP} {s q : Int} {j : Nat} (h : j < L.length) (hk : keeps s q (L.getD j ask0) = false) : mid L s q (j + 1) = kept L s q j ++ L.drop (j + 1) := by
  unfold mid; rw [kept_no h hk]
theorem mid_at {L : List AskP} {s q : Int} {j : Nat} (h : j < L.length) : mid L s q j = kept L s q j ++ L.getD j ask0 :: L.drop (j + 1) := by unfold mid; rw [drop_get h]
theorem mid_good {L : List AskP} (hg : Good L) (s q : Int) (j : Nat) : Good (mid L s q j) := by
  unfold mid kept
  have hsub : ((L.take j).filter (keeps s q) ++ L.drop j).Sublist L := by
    have h1 : ((L.take j).filter (keeps s q) ++ L.drop j).Sublist (L.take j ++ L.drop j) := (List.filter_sublist).append (List.Sublist.refl _)
    rwa [List.take_append_drop] at h1
  exact ⟨fun x hx => hg.may x (hsub.subset hx), hg.apart.sublist hsub⟩
theorem mid_find {L : List AskP} (hg : Good L) {s q : Int} {j : Nat} (h : j < L.length) : find (mid L s q j) (L.getD j ask0).slot (L.getD j ask0).shard = some (L.getD j ask0) := by
  have h1 := find_at (mid_good hg s q j) (i := (kept L s q j).length) (by rw [mid_at h]; simp)
  have h2 : (mid L s q j).getD (kept L s q j).length ask0 = L.getD j ask0 := by rw [mid_at h]; simp [List.getD_eq_getElem?_getD]
  rwa [h2] at h1
theorem mid_len {L : List AskP} {s q : Int} {j : Nat} : (mid L s q j).length ≤ L.length := by
  unfold mid kept
  have := List.length_filter_le (keeps s q) (L.take j)
  rw [List.length_append, List.length_drop]
  have h2 := List.length_take_le j L
  rw [List.length_take] at this
  omega
theorem mid_end (L : List AskP) (s q : Int) : mid L s q L.length = stop L s q ∧ kept L s q L.length = stop L s q := by
  unfold mid kept stop
  rw [List.take_length, List.drop_length, List.append_nil]; exact ⟨rfl, rfl⟩
end Qu
theorem ask_query (x : AskP) (w : World) : (Instr.field 41 (.agg #[.int .i64 x.slot, .int .i64 x.query, .int .i64 x.shard, .int .i64 x.seq, .int .i64 x.epoch, .string x.text, .int .i64 x.k, .int .i64 x.batch, .bool x.first, .int .i64 x.ad, .string x.aw]) 1).run Tryz.prog w = .ok (.int .i64 x.query) w := by rfl
theorem owns_zero {w : World} {base : Nat} {e : TypeId} {size : Nat} {v : Value} {n : Nat} {xs : List Value} (h : w.ownsRow base e size v n xs) : w.ownsRow 0 e size v n xs := by
  refine ⟨h.1, ?_⟩
  rcases h.2 with h1 | ⟨g, cap, cur, hv, hg, r⟩
  · exact Or.inl h1
  · exact Or.inr ⟨g, cap, cur, hv, Nat.zero_le _, r⟩
theorem two_newQ (w : World) (u v : Value) (e : TypeId) (fr : Nat × Nat) : ∀ ad, (some ⟨w.heap.size, 0, none⟩ : Option Addr) = some ad → ∀ j x, [u, v][j]? = some x → (w.alloc (.cells #[u, v] e fr)).cell? (ad.add j) = some x := by
  intro ad h j x hx
  cases h
  rw [Go.WideShapes.add_plain, Nat.zero_add, World.cell?_alloc_mark]
  simpa using hx
theorem two_oneQ (y z : Int) : ∀ u ∈ [Value.int .i64 y, Value.int .i64 z], u.oneCell' = true := by simp [Value.oneCell']
def StopP (w : World) (b : Nat) (L : List AskP) (S : Nat → Prop) (s q : Int) (e : Ending) (w' : World) : Prop :=
  e = .returned (.int .i64 ((L.length : Int) - ((Qu.stop L s q).length : Int))) ∧ ∃ S', QAt w' b (Qu.stop L s q) S' ∧ (∀ k, S' k → S k ∨ w.heap.size ≤ k) ∧ Turn S w w'
set_option maxHeartbeats 3200000 in
set_option maxRecDepth 100000 in
theorem qStop_any (b : Nat) {L : List AskP} {S : Nat → Prop} (s q : Int) (w : World) (h : QAt w b L S) (hg : Qu.Good L) : Calls Tryz.prog 124 #[.pointer (some ⟨b, 0, none⟩), .int .i64 s, .int .i64 q] w (StopP w b L S s q) := by
  have hl24 := Qu.good_len hg
  have HG := Lib.hid hg
  have H := Lib.hid h
  obtain ⟨i0, hi, hz0, hz1, hz2⟩ := info_parts pl_info
  obtain ⟨n, hn⟩ : ∃ n, L.length = n := ⟨_, rfl⟩
  have CL := Lib.hid (fun w' (h' : QAt w' b L S) => (show Calls Tryz.prog 125 #[.pointer (some ⟨b, 0, none⟩)] w' fun e w'' => e = .returned (.int .i64 n) ∧ w' = w'' from hn ▸ qLen_any b w' h'))
  by_cases h0 : n = 0
  · have hL : L = [] := List.length_eq_zero_iff.1 (by rw [hn]; exact h0)
    have HP := Lib.hid (show StopP w b L S s q (.returned (.int .i64 0)) w from ⟨by rw [hL]; rfl, S, by rw [hL] at h ⊢; exact h, fun k hk => Or.inl hk, Turn.refl _ _⟩)
    subst h0
    clear h hg hL hn
    go_enter Tryz.func124, Tryz.ntmps124
    go_wp2_with fail
    refine (CL.out _ H.out).mono ?_
    rintro e w' ⟨rfl, rfl⟩
    go_wp2_with fail
    go_ret
    exact HP.out
  · obtain ⟨ao, co, bm, M⟩ := h.mid
    have HM := Lib.hid M
    rw [hn] at HM
    have hown := M.2.2.2.1
    rw [hn] at hown
    obtain ⟨g, rfl⟩ : ∃ g, ao = some ⟨g, 0, none⟩ := by
      obtain ⟨g, cap', hv⟩ := Joins.ownsRow_form hown (by omega)
      simp only [Value.slice.injEq] at hv
      exact ⟨g, hv.1⟩
    have HO := Lib.hid hown
    have k0 := M.1
    rw [hn] at k0 hl24
    have hgb := M.2.2.2.2.2.2.2.2.1 g rfl
    have hbm := M.2.2.2.2.2.1
    have hSl := Lib.hid M.2.2.2.2.2.2.2.2.2
    have SBM := Lib.hid M.2.2.2.2.2.2.2.1
    have c1 := M.2.1
    have fr := M.2.2.1
    have FR := Lib.hid fr
    have MQ := Lib.hid (show MapQ w bm (Qu.mid L s q 0).length (Qu.fQ (Qu.mid L s q 0)) from by
      have e : Qu.mid L s q 0 = L := by simp [Qu.mid, Qu.kept]
      rw [e]; exact M.2.2.2.2.1)
    have hz : ((n : Int) == 0) = false := by simp; omega
    have lb := lt_of_cell k0
    have lbm : bm < w.heap.size := M.2.2.2.2.1.lt
    have lg : g < w.heap.size := (hown.lt g rfl).2
    have HN := Lib.hid hn
    have HGB := Lib.hid hgb
    have C1 := Lib.hid c1; have K0 := Lib.hid k0
    clear h hg hn M hown fr hgb c1
    go_enter Tryz.func124, Tryz.ntmps124
    go_wp2_with fail
    refine (CL.out _ H.out).mono ?_
    rintro e w' ⟨rfl, rfl⟩
    clear CL
    go_wp2_with fail
    go_loopw [8, 20] (fun ov iv wr => ∃ (j : Nat) (K : List AskP) (av : Option Addr) (cv : Nat), j ≤ n ∧ K.length ≤ j ∧ iv = .int .i64 j ∧ ov = .slice av K.length cv ∧ Hid (K = Qu.kept L s q j) ∧ Hid (wr.ownsRow w.heap.size 193 2 (.slice av K.length cv) K.length (plcV K)) ∧ Hid (MapQ wr bm (Qu.mid L s q j).length (Qu.fQ (Qu.mid L s q j))) ∧ Hid (Turn (fun k => k = bm) w wr)) (fun _ iv _ => n - (intOf iv).toNat)
    case atStart => exact ⟨0, [], none, 0, by omega, by simp, rfl, rfl, Lib.hid rfl, Lib.hid (World.ownsRow_nil _ _ _ _), MQ, Lib.hid (Turn.refl _ _)⟩
    case round =>
      obtain ⟨j, K, av, cv, hj, hKl, rfl, rfl, hK, hO, hMp, hT⟩ := hrel
      by_cases hlt : j < n
      · have hltL : j < L.length := by rw [HN.out]; exact hlt
        have cg : ∀ i, wr.cell? ⟨g, i, none⟩ = w.cell? ⟨g, i, none⟩ := fun i => hT.out.cell lg HGB.out.2.2
        have e0 := (cg (j * 2)).trans (HO.out.cellAt (j * 2) (by omega))
        have e1 := (cg (j * 2 + 1)).trans (HO.out.cellAt (j * 2 + 1) (by omega))
        obtain ⟨v0, v1⟩ := plcV_at L j hltL
        rw [v0] at e0
        rw [v1] at e1
        have hfa := Qu.mid_find HG.out (s := s) (q := q) hltL
        have hmay := HG.out.may _ (getD_memAsk L j hltL)
        have hky := fun h => Qu.kept_yes (L := L) (s := s) (q := q) hltL h
        have hkn := fun h => Qu.kept_no (L := L) (s := s) (q := q) hltL h
        have hmy := fun h => Qu.mid_yes (L := L) (s := s) (q := q) hltL h
        have hmn := fun h => Qu.mid_no (L := L) (s := s) (q := q) hltL h
        have hma := Qu.mid_at (L := L) (s := s) (q := q) hltL
        obtain ⟨x, hx⟩ : ∃ x, L.getD j ask0 = x := ⟨_, rfl⟩
        rw [hx] at e0 e1 hfa hmay hma
        simp only [hx] at hky hkn hmy hmn
        obtain ⟨LJ, hLJ⟩ : ∃ LJ, Qu.mid L s q j = LJ := ⟨_, rfl⟩
        have hgj := Qu.mid_good HG.out s q j
        rw [hLJ] at hfa hma hmy hMp hgj
        have hlj : LJ.length ≤ n := by rw [← hLJ, ← HN.out]; exact Qu.mid_len
        have FA := Lib.hid (show (Qu.fQ LJ x.slot x.shard).getD zAsk = .agg #[.int .i64 x.slot, .int .i64 x.query, .int .i64 x.shard, .int .i64 x.seq, .int .i64 x.epoch, .string x.text, .int .i64 x.k, .int .i64 x.batch, .bool x.first, .int .i64 x.ad, .string x.aw] from by unfold Qu.fQ; rw [hfa]; rfl)
        have HSOME := Lib.hid (show (Qu.fQ LJ x.slot x.shard).isSome = true from by unfold Qu.fQ; rw [hfa]; rfl)
        have HK := Lib.hid (show wf2 x.slot x.shard from ⟨wf_small (by have := hmay.1; omega), wf_small (by have := hmay.2; omega)⟩)
        have KY := Lib.hid hky; have KN := Lib.hid hkn; have MY := Lib.hid hmy; have MN := Lib.hid hmn; have MA := Lib.hid hma; have GJ := Lib.hid hgj
        have x1 : (0 : Int) ≤ (j : Int) := by omega
        have x2 : (j : Int) < (n : Int) := by omega
        have OB := Lib.hid (fun k hk => hO.out.lt k hk)
        have ONN := Lib.hid (fun o => owns_below hO.out (below_one wr o))
        have F5 := Lib.hid (plIn_new wr x.slot x.shard wr.heap.size 193 (0, 0) rfl)
        have B5 := Lib.hid (below_one wr (.cells #[.int .i64 x.slot, .int .i64 x.shard] 193))
        have hws := hT.out.size
        clear v0 v1 hfa hmay hky hkn hmy hmn hma hx hLJ hgj cg
        go_upto_region 8 with fail
        have O5 := Lib.hid (ONN.out (.cells #[.int .i64 x.slot, .int .i64 x.shard] 193))
        have M5 := Lib.hid (hMp.out.below B5.out)
        have TW := Lib.hid (hT.out.trans (Turn.of_below B5.out))
        generalize wr.alloc (.cells #[.int .i64 x.slot, .int .i64 x.shard] 193) = w5 at *
        obtain ⟨p, hp⟩ : ∃ p, wr.heap.size = p := ⟨_, rfl⟩
        rw [hp] at F5 OB hws
        rw [hp]
        have cb := (TW.out.cell (o := 1) lb hbm).trans C1.out
        have HS := Lib.hid (show w5.cell? ⟨b, 1, none⟩ = some (.map (some bm)) ∧ w5.cell? ⟨p, 0, none⟩ = some (.int .i64 x.slot) ∧ w5.cell? ⟨p, 1, none⟩ = some (.int .i64 x.shard) ∧ MapQ w5 bm LJ.length (Qu.fQ LJ) from ⟨cb, F5.out.1, F5.out.2, M5.out⟩)
        clear hp e0 e1 ONN B5 hO hMp hT cb
        obtain ⟨f0, f1⟩ := F5.out
        obtain ⟨kp, hkp⟩ : ∃ kp, Qu.keeps s q x = kp := ⟨_, rfl⟩
        have HKP := Lib.hid hkp
        have LT := Lib.hid (show ∀ k, k = b ∨ k = p ∨ k = bm → k < w5.heap.size from by
          intro k hk
          rcases hk with rfl | rfl | rfl
          · exact lt_of_cell HS.out.1
          · exact lt_of_cell HS.out.2.1
          · exact HS.out.2.2.2.lt)
        go_cut [38] from 24 to 37 (fun v wc => v = .bool (!kp) ∧ Hid (Below w5.heap.size w5 wc))
        case first =>
          by_cases hs : x.slot = s
          · have d1 : (x.slot == s) = true := by simpa using hs
            have hkq : (!kp) = decide (x.query ≤ q) := by rw [← hkp]; unfold Qu.keeps; simp [hs]
            have HKQ := Lib.hid hkq
            have hfld := fun w => ask_query x w
            clear hs hkp hkq f0 f1
            go_region_held3 (fun w' => w'.cell? ⟨b, 1, none⟩ = some (.map (some bm)) ∧ w'.cell? ⟨p, 0, none⟩ = some (.int .i64 x.slot) ∧ w'.cell? ⟨p, 1, none⟩ = some (.int .i64 x.shard) ∧ MapQ w' bm LJ.length (Qu.fQ LJ) ∧ (Instr.lookup 189 (.map (some bm)) (.agg #[.int .i64 x.slot, .int .i64 x.shard]) false).run Tryz.prog w' = .ok (.agg #[.int .i64 x.slot, .int .i64 x.query, .int .i64 x.shard, .int .i64 x.seq, .int .i64 x.epoch, .string x.text, .int .i64 x.k, .int .i64 x.batch, .bool x.first, .int .i64 x.ad, .string x.aw]) w')
              (first | assumption | exact allS_carry HK.out FA.out HS.out (fun k hk => rfl))
              (fail)
            go_wp2_with fail
            go_meet
            exact ⟨by rw [HKQ.out], Lib.hid (Below.refl _ _).drew⟩
          · have d1 : (x.slot == s) = false := by simpa using hs
            have hkq : kp = true := by rw [← hkp]; unfold Qu.keeps; simp [hs]
            subst hkq
            clear hs hkp
            go_quiet (fail)
            go_wp2_with fail
            go_meet
            exact ⟨rfl, Lib.hid (below_drewN _ _)⟩
        case rest =>
          obtain ⟨rfl, hB6⟩ := hcut
          rename World => w6
          have P6 := PlIn.below (w := w5) (w' := w6) ⟨f0, f1⟩ hB6.out
          have O6 := Lib.hid (owns_below O5.out hB6.out)
          have M6 := Lib.hid (M5.out.below hB6.out)
          have T6 := Lib.hid (TW.out.trans (Turn.of_below hB6.out))
          have cb6 := (T6.out.cell (o := 1) lb hbm).trans C1.out
          obtain ⟨q0, q1⟩ := P6
          clear f0 f1 hkp
          cases kp
          · -- it is dropped
            have hpbm : p ≠ bm := fun e => MapQ.no_cell M6.out 0 _ (e ▸ q0)
            have MQ6 := Lib.hid (M6.out.below (Below.refl _ _).drew)
            have lb6 := lt_of_cell cb6
            have lp6 := lt_of_cell q0
            have AFTER := Lib.hid (fun w7 (t : w6.drew.mapTurned w7 bm) => show w7.cell? ⟨b, 1, none⟩ = some (.map (some bm)) ∧ w7.cell? ⟨p, 0, none⟩ = some (.int .i64 x.slot) ∧ w7.cell? ⟨p, 1, none⟩ = some (.int .i64 x.shard) from by
              have T := TurnQ.of_mapTurned (F := fun k => k = bm) t rfl
              exact ⟨(T.cell (w := w6.drew) lb6 hbm).trans cb6, (T.cell (w := w6.drew) lp6 hpbm).trans q0, (T.cell (w := w6.drew) lp6 hpbm).trans q1⟩)
            go_upto_region 9 with fail
            go_region_held3 (fun w' => w'.cell? ⟨b, 1, none⟩ = some (.map (some bm)) ∧ w'.cell? ⟨p, 0, none⟩ = some (.int .i64 x.slot) ∧ w'.cell? ⟨p, 1, none⟩ = some (.int .i64 x.shard))
              (first | assumption | exact ⟨cb6, q0, q1⟩ | exact AFTER.out _ t7)
              ((refine wp_del_mq (.tmp 42) (.tmp 43) (by rfl) (by rfl) MQ6.out x.slot x.shard (by rfl) HK.out ?_; intro w7 m7 t7))
            all_goals
              have TT := TurnQ.of_mapTurned (F := fun k => k = bm) t7 rfl
              have hm : MapQ w7 bm (Qu.mid L s q (j + 1)).length (Qu.fQ (Qu.mid L s q (j + 1))) := by
                rw [HSOME.out, if_pos rfl] at m7
                have e1 := MN.out HKP.out
                have e2 := MA.out
                have e3 : (Qu.mid L s q (j + 1)).length = LJ.length - 1 := by rw [e1, e2]; simp
                have e4 : qset (Qu.fQ LJ) x.slot x.shard none = Qu.fQ (Qu.mid L s q (j + 1)) := by
                  funext a c
                  have hh := Qu.find_mid (e2 ▸ GJ.out) a c
                  rw [← e2] at hh
                  unfold qset Qu.fQ
                  rw [e1, hh]
                  by_cases e : a = x.slot ∧ c = x.shard
                  · rw [if_pos e, if_pos e]; rfl
                  · rw [if_neg e, if_neg e]
                rw [e3, ← e4]; exact m7
              have hk2 : K = Qu.kept L s q (j + 1) := by rw [KN.out HKP.out]; exact hK.out
              have O7 := Lib.hid (show w7.ownsRow w.heap.size 193 2 (.slice av K.length cv) K.length (plcV K) from owns_block0 O6.out (fun g' hg' => TT.block (w := w6.drew) g' (by have := (O6.out.lt g' (by rw [hg']; rfl)).2; exact this) (fun e => by have := (O6.out.lt g' (by rw [hg']; rfl)).1; omega)))
              have M7 := Lib.hid hm; have K7 := Lib.hid hk2
              have T7 := Lib.hid ((T6.out.trans (Turn.drewN _ w6 1)).trans TT)
              clear hm hk2 m7 t7 TT AFTER
              go_wp2_with fail
              go_roundw
              case rel => exact ⟨j + 1, K, av, cv, by omega, by omega, by go_num, rfl, K7, O7, M7, T7⟩
              case measure => simp [intOf] <;> omega
          · -- it is kept
            have hws6 := T6.out.size
            go_wp2_with (at_builtin; refine wpList_append_any rfl (.tmp 44) (.tmp 46) 188 rfl w.heap.size 193 i0 _ 2 16 Tryz.underlying188 hi hz0 hz1 hz2 rfl (by decide) _ K.length _ rfl (O6.out.alloc _) _ 1 1 [.int .i64 x.slot, .int .i64 x.shard] rfl (some_none _) rfl (two_newQ _ _ _ _ _) (two_oneQ _ _) (by unfold maxLen; omega) (by omega) (by simp <;> omega) ?_; intro a3 c3 w7 hown3 hb3 hnil3)
            have hown4 : w7.ownsRow w.heap.size 193 2 (.slice a3 (K.length + 1) c3) (K.length + 1) (plcV (K ++ [x])) := by rw [plcV_app]; exact hown3
            have O7 := Lib.hid (show w7.ownsRow w.heap.size 193 2 (.slice a3 (K ++ [x]).length c3) (K ++ [x]).length (plcV (K ++ [x])) from by rw [List.length_append]; exact hown4)
            have K7 := Lib.hid (show K ++ [x] = Qu.kept L s q (j + 1) from by rw [KY.out HKP.out, ← hK.out])
            have bb7 : Below w.heap.size w6 w7 := ((Below.refl _ _).alloc hws6 _).trans hb3
            have M7 := Lib.hid (show MapQ w7 bm (Qu.mid L s q (j + 1)).length (Qu.fQ (Qu.mid L s q (j + 1))) from by rw [MY.out HKP.out]; exact M6.out.block (bb7.block bm lbm))
            have T7 := Lib.hid (show Turn (fun k => k = bm) w w7 from ⟨bb7.os.trans T6.out.os, bb7.tape.trans T6.out.tape, bb7.output.trans T6.out.output, Nat.le_trans T6.out.size bb7.size, fun k hk hn => (bb7.block k hk).trans (T6.out.block k hk hn)⟩)
            clear hown3 hown4 hb3 hnil3 bb7
            go_roundw
            case rel => exact ⟨j + 1, K ++ [x], a3, c3, by omega, by simpa using hKl, by go_num, by simp, K7, O7, M7, T7⟩
            case measure => simp [intOf] <;> omega
      · obtain rfl : j = n := by omega
        have hend := Qu.mid_end L s q
        rw [HN.out] at hend
        have hKe : K = Qu.stop L s q := hK.out.trans hend.2
        have hMe := hMp.out
        rw [hend.1] at hMe
        obtain ⟨R, hR⟩ : ∃ R, Qu.stop L s q = R := ⟨_, rfl⟩
        rw [hR] at hKe hMe
        subst hKe
        obtain ⟨r, hr⟩ : ∃ r, K.length = r := ⟨_, rfl⟩
        have O7 := Lib.hid hO.out
        rw [hr] at O7 hKl
        have cb0 := (hT.out.cell (o := 0) lb hbm).trans K0.out
        have fb0 : wr.frozen? ⟨b, 0, none⟩ = false := (hT.out.frozen (o := 0) lb hbm).trans (FR.out 0)
        have cb1 := Lib.hid ((hT.out.cell (o := 1) lb hbm).trans C1.out)
        have FRr := Lib.hid (fun i => (hT.out.frozen (o := i) lb hbm).trans (FR.out i))
        have HR := Lib.hid hR; have HRL := Lib.hid hr; have ME := Lib.hid hMe; have TT := Lib.hid hT.out
        have z1 : IntKind.i64.wrap ((j : Int) - (r : Int)) = (j : Int) - (r : Int) := IntWalk.i64_in _ (by omega)
        rw [hr]
        clear hO hMp hT hK hend hMe hR hr hlt
        go_upto_region 13 with fail
        have Q9 := Lib.hid (show QAt (wr.setCell ⟨b, 0, none⟩ (.slice av r cv)) b K (andNew S w (wr.setCell ⟨b, 0, none⟩ (.slice av r cv))) from by
          have hsz : (wr.setCell ⟨b, 0, none⟩ (.slice av r cv)).heap.size = wr.heap.size := by simp [World.setCell]
          refine ⟨av, cv, bm, by rw [HRL.out]; exact cset_at cb0, by rw [cset_ne (by omega)]; exact cb1.out, fun i => by rw [fset_any]; exact FRr.out i, ?_, ME.out.setCell (Ne.symm hbm), hbm, Or.inl H.out.has, Or.inl SBM.out, fun g' hg' => ?_, fun k hk => ?_⟩
          · rw [HRL.out]
            exact owns_block0 (owns_zero O7.out) (fun g' hg' => Below.heap_setCell _ _ _ _ (fun e => by have := (O7.out.lt g' (by rw [hg']; rfl)).1; have e2 : g' = b := e; omega))
          · have h1 := O7.out.lt g' (by rw [hg']; rfl)
            exact ⟨Or.inr ⟨h1.1, by rw [hsz]; exact h1.2⟩, by omega, by omega⟩
          · rw [hsz]
            rcases hk with hk | hk
            · exact Nat.lt_of_lt_of_le (hSl.out k hk) TT.out.size
            · rw [hsz] at hk; exact hk.2)
        have TF := Lib.hid (show Turn S w (wr.setCell ⟨b, 0, none⟩ (.slice av r cv)) from (TT.out.mono (fun k hk => by subst hk; exact SBM.out)).trans (Turn.setCell H.out.has))
        go_wp2_with fail
        refine (qLen_any b _ Q9.out).mono ?_
        rintro e w' ⟨rfl, rfl⟩
        rw [HRL.out]
        go_wp2_with fail
        go_ret
        refine ⟨?_, andNew S w (wr.setCell ⟨b, 0, none⟩ (.slice av r cv)), by rw [HR.out]; exact Q9.out, fun k hk => Or.imp id (fun h => h.1) hk, TF.out⟩
        show Ending.returned (.int .i64 ((j : Int) - (r : Int))) = _
        rw [HR.out, HRL.out, HN.out]
end Go.Proofs.YtgnaiahnednllaaGreat
namespace Go.Proofs.YtgnaiahnednllaaGreat
open Go.RowKit
set_option linter.unusedVariables false
set_option maxRecDepth 20000
theorem pedge_info : (Tryz.prog.info? 314).map (fun i => (i.zero, i.size, i.bytes)) = some (some (.agg #[.int .i64 0, .int .i64 0]), 2, 16) := by kernel_rfl
/-- an edge as it is read: its label, where it leads -/
abbrev PE := Nat × Nat
def peV : List PE → List Value
  | [] => []
  | x :: l => .int .i64 (x.1 : Int) :: .int .i64 (x.2 : Int) :: peV l
theorem peV_app : ∀ k l : List PE, peV (k ++ l) = peV k ++ peV l
  | [], l => rfl
  | x :: k, l => by simp [peV, peV_app k l]
theorem peV_at : ∀ (l : List PE) (i : Nat), i < l.length → (peV l)[i * 2]? = some (.int .i64 ((l.getD i (0, 0)).1 : Int)) ∧ (peV l)[i * 2 + 1]? = some (.int .i64 ((l.getD i (0, 0)).2 : Int))
  | [], i, h => by simp at h
  | x :: l, 0, _ => by simp [peV]
  | x :: l, i + 1, h => by
    have ih := peV_at l i (by simpa using h)
    have e1 : (i + 1) * 2 = i * 2 + 1 + 1 := by omega
    rw [e1]
    simpa [peV] using ih
/-- a node as it is read -/
structure PN where
  fin : Bool
  es : List PE
/-- so many edges, read on from here: what was read, how far, whether something was missing -/
def rdE (bs : List Nat) (n : Nat) : Nat → Nat → Bool → List PE × Nat × Bool
  | 0, at_, bad => ([], at_, bad)
  | k + 1, at_, bad =>
    let a1 := atR n at_ 4 bad
    let b1 := !okR n at_ 4 bad
    let a2 := atR n a1 2 b1
    let b2 := !okR n a1 2 b1
    let x : PE := (numR bs n at_ 4 bad, numR bs n a1 2 b1)
    if b2 then ([x], a2, true) else (x :: (rdE bs n k a2 false).1, (rdE bs n k a2 false).2)
def rdN (bs : List Nat) (n at_ : Nat) (bad : Bool) : PN × Nat × Bool :=
  let a1 := atR n at_ 1 bad
  let b1 := !okR n at_ 1 bad
  let a2 := atR n a1 2 b1
  let b2 := !okR n a1 2 b1
  let r := rdE bs n (numR bs n a1 2 b1) a2 b2
  (⟨decide (numR bs n at_ 1 bad = 1), r.1⟩, r.2)
theorem atR_le {n at_ s : Nat} {bad : Bool} (h : at_ ≤ n) : atR n at_ s bad ≤ n := by
  unfold atR
  split
  · rename_i h1
    unfold okR at h1
    simp only [Bool.and_eq_true, decide_eq_true_eq] at h1
    exact h1.2
  · exact h
/-- the state of the loop over a node's edges -/
structure LN (w0 : World) (r : Nat) (a : Option Addr) (n cap : Nat) (bs : List Nat) (at_ : Nat) (bad : Bool) (M B : Nat) (fin : Bool) (es : List PE) (ea : Option Addr) (ec : Nat) (w : World) : Prop where
  rd : RdM r a n cap bs at_ bad w
  c0 : w.cell? ⟨M, 0, none⟩ = some (.bool fin)
  c1 : w.cell? ⟨M, 1, none⟩ = some (.slice ea es.length ec)
  f1 : w.frozen? ⟨M, 1, none⟩ = false
  o : w.ownsRow w0.heap.size 314 2 (.slice ea es.length ec) es.length (peV es)
  ne : ∀ k, ea = some ⟨k, 0, none⟩ → k ≠ M ∧ k ≠ B
  M0 : w0.heap.size ≤ M
  k0 : w.cell? ⟨B, 0, none⟩ = some (.bool false)
  k1 : w.cell? ⟨B, 1, none⟩ = some (.slice none 0 0)
  kf : ∀ i, w.frozen? ⟨B, i, none⟩ = false
  kh : w.heap[B]? = some (.cells #[.bool false, .slice none 0 0] 266 (0, 0))
  B0 : w0.heap.size ≤ B
  MB : M ≠ B
  t : Turn (fun k => k = r) w0 w
end Go.Proofs.YtgnaiahnednllaaGreat
namespace Go.Proofs.YtgnaiahnednllaaGreat
open Go.RowKit
set_option linter.unusedVariables false
set_option maxRecDepth 20000
theorem LN.below {w0 : World} {r : Nat} {a : Option Addr} {n cap : Nat} {bs : List Nat} {at_ : Nat} {bad : Bool} {M B : Nat} {fin : Bool} {es : List PE} {ea : Option Addr} {ec : Nat} {w w' : World} (h : LN w0 r a n cap bs at_ bad M B fin es ea ec w) (hb : Below w.heap.size w w') : LN w0 r a n cap bs at_ bad M B fin es ea ec w' := by
  have lm := lt_of_cell h.c0
  exact ⟨h.rd.turn (S := fun _ => False) (Turn.of_below hb) (fun x => x) (fun q o e x => x), (hb.cell (p := ⟨M, 0, none⟩) lm).trans h.c0, (hb.cell (p := ⟨M, 1, none⟩) lm).trans h.c1, (hb.frozen (p := ⟨M, 1, none⟩) lm).trans h.f1, owns_below h.o hb, h.ne, h.M0, (hb.cell (p := ⟨B, 0, none⟩) (lt_of_cell h.k0)).trans h.k0, (hb.cell (p := ⟨B, 1, none⟩) (lt_of_cell h.k0)).trans h.k1, fun i => (hb.frozen (p := ⟨B, i, none⟩) (lt_of_cell h.k0)).trans (h.kf i), (hb.block B (lt_of_cell h.k0)).trans h.kh, h.B0, h.MB, h.t.trans (Turn.of_below hb)⟩
theorem LN.num {w0 : World} {r : Nat} {a : Option Addr} {n cap : Nat} {bs : List Nat} {at_ at2 : Nat} {bad bad2 : Bool} {M B : Nat} {fin : Bool} {es : List PE} {ea : Option Addr} {ec : Nat} {w w' : World} (h : LN w0 r a n cap bs at_ bad M B fin es ea ec w) (hr : r < w0.heap.size) (m : RdM r a n cap bs at2 bad2 w') (t : Turn (fun k => k = r) w w') : LN w0 r a n cap bs at2 bad2 M B fin es ea ec w' := by
  have lm := lt_of_cell h.c0
  have hM : ¬ M = r := by have := h.M0; omega
  have hB : ¬ B = r := by have := h.B0; omega
  have lb := lt_of_cell h.k0
  refine ⟨m, (t.cell lm hM).trans h.c0, (t.cell lm hM).trans h.c1, (t.frozen lm hM).trans h.f1, ?_, h.ne, h.M0, (t.cell lb hB).trans h.k0, (t.cell lb hB).trans h.k1, fun i => (t.frozen lb hB).trans (h.kf i), (t.block B lb hB).trans h.kh, h.B0, h.MB, h.t.trans t⟩
  rcases h.o.2 with h1 | ⟨g, cap', cur, hv, hge, hh, x⟩
  · exact ⟨h.o.1, .inl h1⟩
  · have hl : g < w.heap.size := by
      rcases Nat.lt_or_ge g w.heap.size with h2 | h2
      · exact h2
      · rw [Array.getElem?_eq_none h2] at hh; cases hh
    exact ⟨h.o.1, .inr ⟨g, cap', cur, hv, hge, (t.block g hl (by omega)).trans hh, x⟩⟩
theorem LN.app {w0 : World} {r : Nat} {a : Option Addr} {n cap : Nat} {bs : List Nat} {at_ : Nat} {bad : Bool} {M B : Nat} {fin : Bool} {es : List PE} {ea : Option Addr} {ec g c : Nat} {x : PE} {w w8 : World} {ob : Obj} (h : LN w0 r a n cap bs at_ bad M B fin es ea ec w) (hr : r < w0.heap.size) (ha : ∀ q o, a = some ⟨q, o, none⟩ → q < w0.heap.size)
    (hown : w8.ownsRow w0.heap.size 314 2 (.slice (some ⟨g, 0, none⟩) (es.length + 1) c) (es.length + 1) (peV es ++ [.int .i64 (x.1 : Int), .int .i64 (x.2 : Int)])) (hg : (w.alloc ob).grownBy w8 (Value.slice ea es.length ec).ownBlock) (hat : (Value.slice ea es.length ec).ownBlock = some g ∨ g = (w.alloc ob).heap.size) :
    LN w0 r a n cap bs at_ bad M B fin (es ++ [x]) (some ⟨g, 0, none⟩) c (w8.setCell ⟨M, 1, none⟩ (.slice (some ⟨g, 0, none⟩) (es.length + 1) c)) := by
  have lm := lt_of_cell h.c0
  have hz : (w.alloc ob).heap.size = w.heap.size + 1 := by simp
  have ob0 : ∀ k, some k = (Value.slice ea es.length ec).ownBlock → w0.heap.size ≤ k ∧ k ≠ M ∧ k ≠ B := fun k e => ⟨(h.o.lt k e.symm).1, h.ne k (own_at9 h.o e.symm)⟩
  have lb := lt_of_cell h.k0
  have bM := h.MB
  have gM : g ≠ M := by
    rcases hat with e | e
    · exact (ob0 g e.symm).2.1
    · omega
  have gB : g ≠ B := by
    rcases hat with e | e
    · exact (ob0 g e.symm).2.2
    · omega
  have cb : ∀ i, w8.cell? ⟨B, i, none⟩ = w.cell? ⟨B, i, none⟩ := fun i => (hg.cell_far ⟨B, i, none⟩ (by rw [hz]; exact Nat.lt_succ_of_lt lb) (fun e => (ob0 B e).2.2 rfl)).trans (cell_alloc_old lb)
  have fb : ∀ i, w8.frozen? ⟨B, i, none⟩ = false := fun i => (hg.frozen_far ⟨B, i, none⟩ (by rw [hz]; exact Nat.lt_succ_of_lt lb) (fun e => (ob0 B e).2.2 rfl)).trans (((below_one w ob).frozen (p := ⟨B, i, none⟩) lb).trans (h.kf i))
  have t1 : Turn (fun k => w0.heap.size ≤ k) w w8 := (Turn.alloc _ w ob).trans ⟨hg.os, hg.tape, hg.output, hg.size, fun k hk hn => hg.block k hk (fun e => hn (ob0 k e).1)⟩
  have cm : ∀ i, w8.cell? ⟨M, i, none⟩ = w.cell? ⟨M, i, none⟩ := fun i => (hg.cell_far ⟨M, i, none⟩ (by rw [hz]; exact Nat.lt_succ_of_lt lm) (fun e => (ob0 M e).2.1 rfl)).trans (cell_alloc_old lm)
  have fm : w8.frozen? ⟨M, 1, none⟩ = false := (hg.frozen_far ⟨M, 1, none⟩ (by rw [hz]; exact Nat.lt_succ_of_lt lm) (fun e => (ob0 M e).2.1 rfl)).trans (((below_one w ob).frozen (p := ⟨M, 1, none⟩) lm).trans h.f1)
  have t2 : Turn (fun k => w0.heap.size ≤ k) w (w8.setCell ⟨M, 1, none⟩ (.slice (some ⟨g, 0, none⟩) (es.length + 1) c)) := t1.trans (Turn.setCell h.M0)
  have el : (es ++ [x]).length = es.length + 1 := by rw [List.length_append]; rfl
  refine ⟨h.rd.turn t2 (by omega) (fun q o e => by have := ha q o e; omega), (cset_ne (by omega)).trans ((cm 0).trans h.c0), ?_, fset_any.trans fm, ?_, fun k e => by injection e with e; injection e with e; exact ⟨by omega, by omega⟩, h.M0, (cset_far bM).trans ((cb 0).trans h.k0), (cset_far bM).trans ((cb 1).trans h.k1), fun i => fset_any.trans (fb i), (Below.heap_setCell _ _ _ _ (show B ≠ M from fun e => bM e.symm)).trans ((hg.block B (by rw [hz]; exact Nat.lt_succ_of_lt lb) (fun e => (ob0 B e).2.2 rfl)).trans ((Below.heap_alloc w ob B lb).trans h.kh)), h.B0, h.MB, ⟨t2.os.trans h.t.os, t2.tape.trans h.t.tape, t2.output.trans h.t.output, Nat.le_trans h.t.size t2.size, fun k hk hn => (t2.block k (Nat.lt_of_lt_of_le hk h.t.size) (by omega)).trans (h.t.block k hk hn)⟩⟩
  · rw [el]; exact cset_at ((cm 1).trans h.c1)
  · rw [el, peV_app]
    exact gowns_block hown (fun q e => by
      injection e with e; injection e with e
      subst e
      exact Below.heap_setCell _ _ _ _ gM)
theorem rdNum9 (s : Nat) (si : Int) (hsi : si = (s : Int)) (h1 : 1 ≤ s) (h4 : s ≤ 4) (v at2 : Nat) (bad2 : Bool) {w0 w : World} {r : Nat} {a : Option Addr} {n cap : Nat} {bs : List Nat} {at_ : Nat} {bad : Bool} {M B : Nat} {fin : Bool} {es : List PE} {ea : Option Addr} {ec : Nat} (h : LN w0 r a n cap bs at_ bad M B fin es ea ec w) (hr : r < w0.heap.size) (hn : n ≤ 1048576) (hat : at_ ≤ n) (hv : numR bs n at_ s bad = v) (h2 : atR n at_ s bad = at2) (hb : (!okR n at_ s bad) = bad2) :
    Calls Tryz.prog 194 #[.pointer (some ⟨r, 0, none⟩), .int .i64 si] w fun e w' => e = .returned (.int .i64 (v : Int)) ∧ LN w0 r a n cap bs at2 bad2 M B fin es ea ec w' := by
  subst hsi hv h2 hb
  exact (rdNum_any r a n cap bs at_ bad s w h.rd hn hat h1 h4).mono fun e w' ⟨e1, m, t⟩ => ⟨e1, h.num hr m t⟩
end Go.Proofs.YtgnaiahnednllaaGreat
namespace Go.Proofs.YtgnaiahnednllaaGreat
open Go.RowKit
set_option linter.unusedVariables false
set_option maxRecDepth 20000
theorem rdE_succ (bs : List Nat) (n k at_ : Nat) (bad : Bool) : rdE bs n (k + 1) at_ bad = (let a1 := atR n at_ 4 bad; let b1 := !okR n at_ 4 bad; let a2 := atR n a1 2 b1; let b2 := !okR n a1 2 b1; let x : PE := (numR bs n at_ 4 bad, numR bs n a1 2 b1); if b2 then ([x], a2, true) else (x :: (rdE bs n k a2 false).1, (rdE bs n k a2 false).2)) := rfl
theorem LN.kept {w0 : World} {r : Nat} {a : Option Addr} {n cap : Nat} {bs : List Nat} {at_ : Nat} {bad : Bool} {M B : Nat} {fin : Bool} {es : List PE} {ea : Option Addr} {ec : Nat} {w w8 : World} {ob : Obj} (h : LN w0 r a n cap bs at_ bad M B fin es ea ec w) (hg : (w.alloc ob).grownBy w8 (Value.slice ea es.length ec).ownBlock) : w8.cell? ⟨M, 1, none⟩ = some (.slice ea es.length ec) ∧ w8.frozen? ⟨M, 1, none⟩ = false := by
  have lm := lt_of_cell h.c0
  have hz : (w.alloc ob).heap.size = w.heap.size + 1 := by simp
  have ne : some M ≠ (Value.slice ea es.length ec).ownBlock := fun e => (h.ne M (own_at9 h.o e.symm)).1 rfl
  exact ⟨(hg.cell_far ⟨M, 1, none⟩ (by rw [hz]; exact Nat.lt_succ_of_lt lm) ne).trans ((cell_alloc_old lm).trans h.c1), (hg.frozen_far ⟨M, 1, none⟩ (by rw [hz]; exact Nat.lt_succ_of_lt lm) ne).trans (((below_one w ob).frozen (p := ⟨M, 1, none⟩) lm).trans h.f1)⟩
def RdP (r : Nat) (a : Option Addr) (n cap : Nat) (bs : List Nat) (x : PN × Nat × Bool) (w : World) (e : Ending) (w' : World) : Prop :=
  ∃ ea ec, e = .returned (.agg #[.bool x.1.fin, .slice ea x.1.es.length ec]) ∧ RdM r a n cap bs x.2.1 x.2.2 w' ∧ w'.ownsRow w.heap.size 314 2 (.slice ea x.1.es.length ec) x.1.es.length (peV x.1.es) ∧ Turn (fun k => k = r) w w'
theorem LN.fin {w0 : World} {r : Nat} {a : Option Addr} {n cap : Nat} {bs : List Nat} {at_ : Nat} {bad : Bool} {M B : Nat} {fin : Bool} {es : List PE} {ea : Option Addr} {ec : Nat} {w : World} (h : LN w0 r a n cap bs at_ bad M B fin es ea ec w) (hr : r < w0.heap.size) (ha : ∀ q o, a = some ⟨q, o, none⟩ → q < w0.heap.size) (u v : Value) :
    RdM r a n cap bs at_ bad ((w.setCell ⟨B, 0, none⟩ u).setCell ⟨B, 1, none⟩ v) ∧ ((w.setCell ⟨B, 0, none⟩ u).setCell ⟨B, 1, none⟩ v).ownsRow w0.heap.size 314 2 (.slice ea es.length ec) es.length (peV es) ∧ Turn (fun k => k = r) w0 ((w.setCell ⟨B, 0, none⟩ u).setCell ⟨B, 1, none⟩ v) ∧ ((w.setCell ⟨B, 0, none⟩ u).setCell ⟨B, 1, none⟩ v).heap[B]? = some (.cells #[u, v] 266 (0, 0)) := by
  have t2 : Turn (fun k => w0.heap.size ≤ k) w ((w.setCell ⟨B, 0, none⟩ u).setCell ⟨B, 1, none⟩ v) := (Turn.setCell h.B0).trans (Turn.setCell h.B0)
  refine ⟨h.rd.turn t2 (by omega) (fun q o e => by have := ha q o e; omega), gowns_block h.o (fun q e => ?_), ⟨t2.os.trans h.t.os, t2.tape.trans h.t.tape, t2.output.trans h.t.output, Nat.le_trans h.t.size t2.size, fun k hk hn => (t2.block k (Nat.lt_of_lt_of_le hk h.t.size) (by omega)).trans (h.t.block k hk hn)⟩, heap_setCell_same _ B 1 _ _ v (heap_setCell_same w B 0 _ _ u h.kh)⟩
  have hq := (h.ne q e).2
  exact (Below.heap_setCell _ _ _ _ hq).trans (Below.heap_setCell _ _ _ _ hq)
set_option maxHeartbeats 6400000 in
set_option maxRecDepth 100000 in
theorem readNode_any (r : Nat) (a : Option Addr) (n cap : Nat) (bs : List Nat) (at_ : Nat) (bad : Bool) (w : World) (m : RdM r a n cap bs at_ bad w) (hn : n ≤ 1048576) (hat : at_ ≤ n) (hr : r < w.heap.size) (ha : ∀ q o, a = some ⟨q, o, none⟩ → q < w.heap.size) (hbs : ∀ b ∈ bs, b < 256) (hlen : bs.length = n) :
    Calls Tryz.prog 195 #[.pointer (some ⟨r, 0, none⟩)] w (RdP r a n cap bs (rdN bs n at_ bad) w) := by
  obtain ⟨i0, hi, hz0, hz1, hz2⟩ := info_parts pedge_info
  have B0 := Lib.hid (below_one w (.cells #[.bool false, .slice none 0 0] 266))
  have M0 := Lib.hid (show RdM r a n cap bs at_ bad (w.alloc (.cells #[.bool false, .slice none 0 0] 266)) from m.turn (S := fun _ => False) (Turn.of_below B0.out) (fun x => x) (fun q o e x => x))
  obtain ⟨v1, hv1⟩ : ∃ v, numR bs n at_ 1 bad = v := ⟨_, rfl⟩
  obtain ⟨a1, ha1⟩ : ∃ v, atR n at_ 1 bad = v := ⟨_, rfl⟩
  obtain ⟨b1, hb1⟩ : ∃ v, (!okR n at_ 1 bad) = v := ⟨_, rfl⟩
  have C1 := Lib.hid (rdNum_any r a n cap bs at_ bad 1 _ M0.out hn hat (by omega) (by omega))
  rw [hv1, ha1, hb1, show ((1 : Nat) : Int) = 1 from rfl] at C1
  have la1 : a1 ≤ n := ha1 ▸ atR_le hat
  obtain ⟨fin, hfin⟩ : ∃ f, ((v1 : Int) == 1) = f := ⟨_, rfl⟩
  have HFIN := Lib.hid (show decide (v1 = 1) = fin from by rw [← hfin]; by_cases h : v1 = 1 <;> simp [h]; omega)
  obtain ⟨v2, hv2⟩ : ∃ v, numR bs n a1 2 b1 = v := ⟨_, rfl⟩
  obtain ⟨a2, ha2⟩ : ∃ v, atR n a1 2 b1 = v := ⟨_, rfl⟩
  obtain ⟨b2, hb2⟩ : ∃ v, (!okR n a1 2 b1) = v := ⟨_, rfl⟩
  have la2 : a2 ≤ n := ha2 ▸ atR_le la1
  have v2b : v2 < 65536 := by rw [← hv2]; exact numR_lt bs n a1 2 b1 hbs hlen
  obtain ⟨R, hR⟩ : ∃ x, rdE bs n v2 a2 b2 = x := ⟨_, rfl⟩
  have HRD := Lib.hid (show rdN bs n at_ bad = (⟨fin, R.1⟩, R.2) from by
    unfold rdN
    simp only [hv1, ha1, hb1, hv2, ha2, hb2, hR, HFIN.out])
  rw [HRD.out]
  have RR := Lib.hid hR
  have HR := Lib.hid hr; have HA := Lib.hid ha
  have E2 := Lib.hid (And.intro hv2 (And.intro ha2 hb2))
  have CB := Lib.hid (show (w.alloc (.cells #[.bool false, .slice none 0 0] 266)).cell? ⟨w.heap.size, 0, none⟩ = some (.bool false) ∧ (w.alloc (.cells #[.bool false, .slice none 0 0] 266)).cell? ⟨w.heap.size, 1, none⟩ = some (.slice none 0 0) ∧ ∀ i, (w.alloc (.cells #[.bool false, .slice none 0 0] 266)).frozen? ⟨w.heap.size, i, none⟩ = false from ⟨by rw [cell_alloc rfl]; rfl, by rw [cell_alloc rfl]; rfl, fun i => frozen_alloc rfl⟩)
  clear m hr ha hv1 ha1 hb1 hv2 ha2 hb2 hR hbs hlen HRD
  go_enter Tryz.func195, Tryz.ntmps195
  go_wp2_with fail
  with_reducible refine C1.out.mono ?_
  rintro e w2 ⟨rfl, m2, t2⟩
  have L3 := Lib.hid (show LN w r a n cap bs a1 b1 w2.heap.size w.heap.size fin [] none 0 (w2.alloc (.cells #[.bool fin, .slice none 0 0] 266)) from by
    have hz := t2.size
    have hz0 : (w.alloc (.cells #[.bool false, .slice none 0 0] 266)).heap.size = w.heap.size + 1 := by simp
    have hB : ¬ w.heap.size = r := by have := HR.out; omega
    have lB : w.heap.size < (w.alloc (.cells #[.bool false, .slice none 0 0] 266)).heap.size := by omega
    have b3 := below_one w2 (.cells #[.bool fin, .slice none 0 0] 266)
    have lB2 : w.heap.size < w2.heap.size := by omega
    exact ⟨m2.turn (S := fun _ => False) (Turn.of_below b3) (fun x => x) (fun q o e x => x), by rw [cell_alloc rfl]; rfl, by rw [cell_alloc rfl]; rfl, frozen_alloc rfl, World.ownsRow_nil _ _ _ _, fun k e => (by cases e), by omega,
      (b3.cell (p := ⟨w.heap.size, 0, none⟩) lB2).trans ((t2.cell lB hB).trans CB.out.1), (b3.cell (p := ⟨w.heap.size, 1, none⟩) lB2).trans ((t2.cell lB hB).trans CB.out.2.1), fun i => (b3.frozen (p := ⟨w.heap.size, i, none⟩) lB2).trans ((t2.frozen lB hB).trans (CB.out.2.2 i)), (b3.block w.heap.size lB2).trans ((t2.block w.heap.size lB hB).trans (heap_alloc_new w _)), Nat.le_refl _, by omega, ((Turn.of_below B0.out).trans t2).trans (Turn.of_below b3)⟩)
  have C2 := Lib.hid (rdNum9 2 2 rfl (by omega) (by omega) v2 a2 b2 L3.out HR.out hn la1 E2.out.1 E2.out.2.1 E2.out.2.2)
  clear m2 t2 C1 M0 B0 CB
  go_wp2_with fail
  with_reducible refine C2.out.mono ?_
  rintro e w4 ⟨rfl, hL4⟩
  have L4 := Lib.hid hL4
  generalize w2.heap.size = M at *
  clear hL4 L3 C2
  go_wp2_with fail
  go_loopw [12] (fun iv wr => ∃ (i : Nat) (es : List PE) (ea : Option Addr) (ec at3 : Nat) (bad3 : Bool), i ≤ v2 ∧ iv = .int .i64 i ∧ at3 ≤ n ∧ es.length ≤ i ∧ Hid (es ++ (rdE bs n (v2 - i) at3 bad3).1 = R.1 ∧ (rdE bs n (v2 - i) at3 bad3).2 = R.2) ∧ Hid (LN w r a n cap bs at3 bad3 M w.heap.size fin es ea ec wr)) (fun iv _ => v2 - (intOf iv).toNat)
  case atStart => exact ⟨0, [], none, 0, a2, b2, by omega, rfl, la2, by simp, Lib.hid (by rw [Nat.sub_zero, RR.out]; exact ⟨rfl, rfl⟩), L4⟩
  case round =>
    clear L4 RR
    obtain ⟨i, es, ea, ec, at3, bad3, hi', rfl, l3, hel, hE, hL⟩ := hrel
    by_cases hlt : i < v2
    · obtain ⟨l, hl⟩ : ∃ v, numR bs n at3 4 bad3 = v := ⟨_, rfl⟩
      obtain ⟨a4, ha4⟩ : ∃ v, atR n at3 4 bad3 = v := ⟨_, rfl⟩
      obtain ⟨b4, hb4⟩ : ∃ v, (!okR n at3 4 bad3) = v := ⟨_, rfl⟩
      obtain ⟨t, ht⟩ : ∃ v, numR bs n a4 2 b4 = v := ⟨_, rfl⟩
      obtain ⟨a5, ha5⟩ : ∃ v, atR n a4 2 b4 = v := ⟨_, rfl⟩
      obtain ⟨b5, hb5⟩ : ∃ v, (!okR n a4 2 b4) = v := ⟨_, rfl⟩
      have l4 : a4 ≤ n := ha4 ▸ atR_le l3
      have l5 : a5 ≤ n := ha5 ▸ atR_le l4
      have EX := Lib.hid (show rdE bs n (v2 - i) at3 bad3 = if b5 then ([(l, t)], a5, true) else ((l, t) :: (rdE bs n (v2 - (i + 1)) a5 false).1, (rdE bs n (v2 - (i + 1)) a5 false).2) from by
        rw [show v2 - i = (v2 - (i + 1)) + 1 by omega, rdE_succ]
        simp only [hl, ha4, hb4, ht, ha5, hb5])
      have C4 := Lib.hid (fun (w' : World) (h : LN w r a n cap bs at3 bad3 M w.heap.size fin es ea ec w') => rdNum9 4 4 rfl (by omega) (by omega) l a4 b4 h HR.out hn l3 hl ha4 hb4)
      have C5 := Lib.hid (fun (w' : World) (h : LN w r a n cap bs a4 b4 M w.heap.size fin es ea ec w') => rdNum9 2 2 rfl (by omega) (by omega) t a5 b5 h HR.out hn l4 ht ha5 hb5)
      have L4 := Lib.hid (hL.out.below (Below.refl _ _).drew)
      have y4 := L4.out.c1
      clear hl ha4 hb4 ht ha5 hb5
      go_upto_region 5 with fail
      go_region_law
        (first
          | (refine step_append_lies _ (by rfl) _ _ _ (by rfl) w.heap.size 314 i0 _ 2 16 Tryz.underlying264 hi hz0 hz1 hz2 rfl (by omega) (.slice ea es.length ec) es.length (peV es) (by first | rfl | (simp [Act.eval]; done) | (simp [Act.eval, Act.put]; done)) (hL6.o.alloc _) ⟨w6.heap.size, 0, none⟩ 1 1 [.int .i64 (l : Int), .int .i64 (t : Int)] (by first | rfl | (simp [Act.eval]; done) | (simp [Act.eval, Act.put]; done)) (by rfl) (World.news_of_block (cs := #[.int .i64 (l : Int), .int .i64 (t : Int)]) (t := 314) (fr := (0, 0)) (heap_alloc_new w6 _)) (by simp [Value.oneCell']) (by omega) (by unfold maxLen; omega) (by omega) (by have := hL6.t.size; simp; omega) (w6.heap.size + 1) (by simp) ?_; intro g8 c8 w8 hown8 hgrow8 hat8 hlt8; obtain ⟨z0, z1⟩ := hL6.kept hgrow8)
          | (go_simp; go_at_call 194; (with_reducible refine (C4.out _ L4.out).mono ?_); rintro e w5 ⟨rfl, hL5⟩; have y5 := hL5.c1)
          | (go_simp; go_at_call 194; (with_reducible refine (C5.out _ hL5).mono ?_); rintro e w6 ⟨rfl, hL6⟩; have y6 := hL6.c1; have y7 := fun ob => (cell_alloc_old (w := w6) (o := ob) (b := M) (p := 1) (lt_of_cell hL6.c0)).trans hL6.c1)
          | fail)
      all_goals
        have LA := Lib.hid (hL6.app (x := (l, t)) HR.out HA.out hown8 hgrow8 (hat8.imp id (fun e => by simp; exact e)))
        clear hown8 hgrow8 hat8 hlt8 z0 z1 hL5 hL6 y4 y5 y6 y7 C4 C5 L4
        have CB5 := Lib.hid (rdBad_any r a n cap bs a5 b5 _ LA.out.rd)
        go_wp2_with fail
        with_reducible refine CB5.out.mono ?_
        rintro e w9 ⟨rfl, rfl⟩
        cases b5 with
        | true =>
          have ED := Lib.hid (show es ++ [(l, t)] = R.1 ∧ (a5, true) = R.2 from by
            have h1 := hE.out
            rw [EX.out] at h1
            simpa using h1)
          have F := Lib.hid (LA.out.fin HR.out HA.out (.bool fin) (.slice (some ⟨g8, 0, none⟩) (es.length + 1) c8))
          have EL : (es ++ [((l, t) : PE)]).length = es.length + 1 := by rw [List.length_append]; rfl
          have c0 := LA.out.c0
          have c1 := LA.out.c1
          rw [EL] at c1
          have k0 := LA.out.k0
          have k1 := LA.out.k1
          have f0 := LA.out.kf 0
          have f1 := LA.out.kf 1
          have ELH := Lib.hid EL
          clear EL
          go_wp2_with fail
          (try simp only [Exit.inBlock, Exit.then])
          refine bodyPost_ret (results_cell_row rfl _ _ w.heap.size 266 _ (0, 0) _ rfl F.out.2.2.2 Tryz.underlying266 rfl (by kernel_rfl)) rfl ?_
          obtain ⟨e1, e2⟩ := ED.out
          rw [← e1, ← e2]
          exact ⟨some ⟨g8, 0, none⟩, c8, by rw [ELH.out], F.out.1, F.out.2.1, F.out.2.2.1⟩
        | false =>
          have EN := Lib.hid (show (es ++ [(l, t)]) ++ (rdE bs n (v2 - (i + 1)) a5 false).1 = R.1 ∧ (rdE bs n (v2 - (i + 1)) a5 false).2 = R.2 from by
            have h1 := hE.out
            rw [EX.out] at h1
            simpa using h1)
          go_wp2_with fail
          go_roundw
          case rel => exact ⟨i + 1, es ++ [(l, t)], some ⟨g8, 0, none⟩, c8, a5, false, by omega, by go_num, l5, by simp; omega, EN, LA⟩
          case measure => simp [intOf] <;> omega
    · obtain rfl : i = v2 := by omega
      have ED := Lib.hid (show es = R.1 ∧ (at3, bad3) = R.2 from by
        have h1 := hE.out
        rw [Nat.sub_self] at h1
        simpa [rdE] using h1)
      have F := Lib.hid (hL.out.fin HR.out HA.out (.bool fin) (.slice ea es.length ec))
      have c0 := hL.out.c0
      have c1 := hL.out.c1
      have k0 := hL.out.k0
      have k1 := hL.out.k1
      have f0 := hL.out.kf 0
      have f1 := hL.out.kf 1
      go_wp2_with fail
      (try simp only [Exit.inBlock, Exit.then])
      refine bodyPost_ret (results_cell_row rfl _ _ w.heap.size 266 _ (0, 0) _ rfl F.out.2.2.2 Tryz.underlying266 rfl (by kernel_rfl)) rfl ?_
      obtain ⟨e1, e2⟩ := ED.out
      rw [← e1, ← e2]
      exact ⟨ea, ec, rfl, F.out.1, F.out.2.1, F.out.2.2.1⟩
end Go.Proofs.YtgnaiahnednllaaGreat
namespace Go.Proofs.YtgnaiahnednllaaGreat
open Go.ChangeShapes Go.WideShapes Go.ChangeAt Go.RowKit
set_option linter.unusedVariables false
set_option maxRecDepth 20000
def strB (s : ByteArray) : List Nat := s.data.toList.map UInt8.toNat
end Go.Proofs.YtgnaiahnednllaaGreat
namespace Go.Proofs.YtgnaiahnednllaaGreat
open Go.RowKit
set_option linter.unusedVariables false
set_option maxRecDepth 20000
/-- the text of bytes -/
def strN (bs : List Nat) : ByteArray := strOfNums (bs.map fun b : Nat => (b : Int))
theorem run_conv_bytes {P : Program} (w : World) (src e dst : TypeId) (hs : P.underlying src = some (.slice e)) (he : P.underlying e = some (.int .u8)) (hd : P.underlying dst = some .string) (a : Option Addr) (n cap : Nat) (bs : List Nat) (h : HoldsB w a n bs) :
    (convert src dst (.slice a n cap)).run P w = .ok (.string (strN bs)) w := by
  have hl := h.len
  rcases Nat.eq_zero_or_pos n with h0 | h0
  · subst h0
    obtain rfl := List.eq_nil_of_length_eq_zero hl
    rw [run_convert_bytes_string w src dst e a 0 cap hs he hd]
    cases a with
    | none => simp [Conv.bytesToString]; rfl
    | some ad => simp [Conv.bytesToString]; rfl
  · obtain ⟨b, o, rfl, hc⟩ := h.at h0
    exact run_convert_bytes_arg (P := P) w src e hs he b o n cap (bs.map fun b : Nat => (b : Int)) (by simpa using hl) (fun i hi => by rw [hc i (by simpa [hl] using hi), getD_map_cast]) dst hd
end Go.Proofs.YtgnaiahnednllaaGreat
namespace Go.Proofs.YtgnaiahnednllaaGreat
open Go.RowKit
set_option linter.unusedVariables false
set_option maxRecDepth 20000
theorem strN_inj {x y : List Nat} (hx : ∀ b ∈ x, b < 256) (hy : ∀ b ∈ y, b < 256) : strN x = strN y ↔ x = y := by
  refine ⟨fun h => ?_, fun h => by rw [h]⟩
  have key : ∀ l : List Nat, (∀ b ∈ l, b < 256) → ((strN l).data.toList.map UInt8.toNat) = l := fun l hl => by
    unfold strN
    rw [strOfNums_data, List.map_map, List.map_map]
    refine (List.map_congr_left fun b hb => ?_).trans (List.map_id l)
    have := hl b hb
    simp
    omega
  rw [← key x hx, ← key y hy, h]
theorem bEqual_any (a1 a2 : Option Addr) (n1 c1 n2 c2 : Nat) (x y : List Nat) (w : World) (h1 : HoldsB w a1 n1 x) (h2 : HoldsB w a2 n2 y) :
    Calls Tryz.prog 144 #[.slice a1 n1 c1, .slice a2 n2 c2] w fun e w' => e = .returned (.bool (decide (x = y))) ∧ w = w' := by
  have r1 := run_conv_bytes w 136 5 9 Tryz.underlying136 Tryz.underlying5 Tryz.underlying9 a1 n1 c1 x h1
  have r2 := run_conv_bytes w 136 5 9 Tryz.underlying136 Tryz.underlying5 Tryz.underlying9 a2 n2 c2 y h2
  have E := Lib.hid (strN_inj h1.2 h2.2)
  clear h1 h2
  by_cases he : x = y
  · subst he
    rw [decide_eq_true rfl]
    have e1 : ((strN x).toList == (strN x).toList) = true := by simp
    go_enter Tryz.func144, Tryz.ntmps144
    go_wp2_with fail
    go_ret
    exact ⟨rfl, rfl⟩
  · rw [decide_eq_false he]
    have e1 : ((strN x).toList == (strN y).toList) = false := by
      rw [beq_eq_false_iff_ne]; exact fun h => he (E.out.1 (toList_inj h))
    clear he
    go_enter Tryz.func144, Tryz.ntmps144
    go_wp2_with fail
    go_ret
    exact ⟨rfl, rfl⟩
theorem bPrefix_any (a1 a2 : Option Addr) (n1 c1 n2 c2 : Nat) (x y : List Nat) (w : World) (h1 : HoldsB w a1 n1 x) (h2 : HoldsB w a2 n2 y) (hc : n1 ≤ c1) (h0 : 0 < n2) (hn : n1 ≤ 9223372036854775807) (hn2 : n2 ≤ 9223372036854775807) :
    Calls Tryz.prog 191 #[.slice a1 n1 c1, .slice a2 n2 c2] w fun e w' => e = .returned (.bool (decide (x.take n2 = y))) ∧ w = w' := by
  have l1 := h1.len
  have l2 := h2.len
  by_cases hle : n2 ≤ n1
  · have d1 : decide ((n1 : Int) ≥ (n2 : Int)) = true := decide_eq_true (by omega)
    have d2 : decide ((n2 : Int) ≤ (n1 : Int)) = true := decide_eq_true (by omega)
    obtain ⟨q, o, rfl, -⟩ := h1.at (by omega)
    have CE := Lib.hid (bEqual_any (some ⟨q, o, none⟩) a2 n2 c1 n2 c2 (x.take n2) y w (h1.front n2 hle) h2)
    obtain ⟨z, hz⟩ : ∃ z, decide (x.take n2 = y) = z := ⟨_, rfl⟩
    rw [hz] at CE ⊢
    have n3 : (n2 : Int) ≤ (c1 : Int) := by omega
    have n4 : n2 ≤ c1 := by omega
    have n5 : (0 : Int) ≤ (n2 : Int) := by omega
    clear h1 h2 hz l1 l2
    go_enter Tryz.func191, Tryz.ntmps191
    go_wp2_with fail
    with_reducible refine CE.out.mono ?_
    rintro e w' ⟨rfl, rfl⟩
    go_wp2_with fail
    go_ret
    exact ⟨rfl, rfl⟩
  · have d1 : decide ((n1 : Int) ≥ (n2 : Int)) = false := decide_eq_false (by omega)
    have d2 : decide ((n2 : Int) ≤ (n1 : Int)) = false := decide_eq_false (by omega)
    have hz : decide (x.take n2 = y) = false := decide_eq_false (fun e => by
      have := congrArg List.length e
      rw [List.length_take] at this; omega)
    rw [hz]
    clear h1 h2 hz l1 l2
    go_enter Tryz.func191, Tryz.ntmps191
    go_wp2_with fail
    go_ret
    exact ⟨rfl, rfl⟩
end Go.Proofs.YtgnaiahnednllaaGreat
namespace Go.Proofs.YtgnaiahnednllaaGreat
open Go.RowKit
set_option linter.unusedVariables false
set_option maxRecDepth 20000
theorem pnode_info : (Tryz.prog.info? 266).map (fun i => (i.zero, i.size, i.bytes)) = some (some (.agg #[.bool false, .slice none 0 0]), 2, 32) := by kernel_rfl
/-- so many nodes, read on from here; none: something was missing -/
def rdL (bs : List Nat) (n : Nat) : Nat → Nat → Option (List PN × Nat)
  | 0, at_ => some ([], at_)
  | k + 1, at_ => if (rdN bs n at_ false).2.2 then none else (rdL bs n k (rdN bs n at_ false).2.1).map (fun r => ((rdN bs n at_ false).1 :: r.1, r.2))
/-- the nodes of a body: none: it is no such body -/
def readP (body : List Nat) : Option (List PN) :=
  if body.take 4 = [73, 78, 75, 49] then
    let d := body.drop 4
    if okR d.length 0 2 false then
      match rdL d d.length (numR d d.length 0 2 false) 2 with
      | some (L, k) => if k = d.length then some L else none
      | none => none
    else none
  else none
/-- a node with where its edges lie -/
structure PM where
  fin : Bool
  es : List PE
  ea : Option Addr
  ec : Nat
def pm0 : PM := ⟨false, [], none, 0⟩
def pmP (x : PM) : PN := ⟨x.fin, x.es⟩
def pmV : List PM → List Value
  | [] => []
  | x :: l => .bool x.fin :: .slice x.ea x.es.length x.ec :: pmV l
theorem pmV_app : ∀ k l : List PM, pmV (k ++ l) = pmV k ++ pmV l
  | [], l => rfl
  | x :: k, l => by simp [pmV, pmV_app k l]
theorem pmV_at : ∀ (l : List PM) (i : Nat), i < l.length → (pmV l)[i * 2]? = some (.bool (l.getD i pm0).fin) ∧ (pmV l)[i * 2 + 1]? = some (.slice (l.getD i pm0).ea (l.getD i pm0).es.length (l.getD i pm0).ec)
  | [], i, h => by simp at h
  | x :: l, 0, _ => by simp [pmV]
  | x :: l, i + 1, h => by
    have ih := pmV_at l i (by simpa using h)
    have e1 : (i + 1) * 2 = i * 2 + 1 + 1 := by omega
    rw [e1]
    simpa [pmV] using ih
/-- nodes in memory, each with its own edges, all from block B on -/
structure PR9 (B : Nat) (NL : List PM) (na : Option Addr) (nc : Nat) (w : World) : Prop where
  o : w.ownsRow B 266 2 (.slice na NL.length nc) NL.length (pmV NL)
  e : ∀ x ∈ NL, w.ownsRow B 314 2 (.slice x.ea x.es.length x.ec) x.es.length (peV x.es)
  ne : ∀ x ∈ NL, ∀ k, x.ea = some ⟨k, 0, none⟩ → na ≠ some ⟨k, 0, none⟩
theorem turn_grown9 {w w' : World} {r : Option Nat} (h : w.grownBy w' r) : Turn (fun k => some k = r) w w' := ⟨h.os, h.tape, h.output, h.size, fun k hk hn => h.block k hk hn⟩
theorem own_turn9 {w w' : World} {B : Nat} {e : TypeId} {size n c : Nat} {a : Option Addr} {xs : List Value} {T : Nat → Prop} (h : w.ownsRow B e size (.slice a n c) n xs) (t : Turn T w w') (hT : ∀ k, a = some ⟨k, 0, none⟩ → ¬ T k) : w'.ownsRow B e size (.slice a n c) n xs :=
  gowns_block h fun g e => t.block g (h.lt g (by rw [e]; rfl)).2 (hT g e)
theorem PR9.turn {B : Nat} {NL : List PM} {na : Option Addr} {nc : Nat} {w w' : World} {T : Nat → Prop} (h : PR9 B NL na nc w) (t : Turn T w w') (h1 : ∀ k, na = some ⟨k, 0, none⟩ → ¬ T k) (h2 : ∀ x ∈ NL, ∀ k, x.ea = some ⟨k, 0, none⟩ → ¬ T k) : PR9 B NL na nc w' :=
  ⟨own_turn9 h.o t h1, fun x hx => own_turn9 (h.e x hx) t (h2 x hx), h.ne⟩
/-- a node more -/
theorem PR9.grow {B : Nat} {NL : List PM} {na : Option Addr} {nc g c : Nat} {x : PM} {w w8 : World} {ob : Obj} (h : PR9 B NL na nc w) (hx : w.ownsRow B 314 2 (.slice x.ea x.es.length x.ec) x.es.length (peV x.es)) (hne : ∀ k, x.ea = some ⟨k, 0, none⟩ → na ≠ some ⟨k, 0, none⟩)
    (hown : w8.ownsRow B 266 2 (.slice (some ⟨g, 0, none⟩) (NL.length + 1) c) (NL.length + 1) (pmV NL ++ [.bool x.fin, .slice x.ea x.es.length x.ec])) (hg : (w.alloc ob).grownBy w8 (Value.slice na NL.length nc).ownBlock) (hat : (Value.slice na NL.length nc).ownBlock = some g ∨ g = (w.alloc ob).heap.size) : PR9 B (NL ++ [x]) (some ⟨g, 0, none⟩) c w8 := by
  have hz : (w.alloc ob).heap.size = w.heap.size + 1 := by simp
  have t : Turn (fun k => some k = (Value.slice na NL.length nc).ownBlock) w w8 := (Turn.alloc _ w ob).trans (turn_grown9 hg)
  have el : (NL ++ [x]).length = NL.length + 1 := by rw [List.length_append]; rfl
  have all : ∀ y ∈ NL ++ [x], w.ownsRow B 314 2 (.slice y.ea y.es.length y.ec) y.es.length (peV y.es) ∧ ∀ k, y.ea = some ⟨k, 0, none⟩ → na ≠ some ⟨k, 0, none⟩ := fun y hy => by
    rcases List.mem_append.1 hy with hy | hy
    · exact ⟨h.e y hy, h.ne y hy⟩
    · obtain rfl : y = x := by simpa using hy
      exact ⟨hx, hne⟩
  refine ⟨by rw [el, pmV_app]; exact hown, fun y hy => own_turn9 (all y hy).1 t (fun k e e2 => (all y hy).2 k e (own_at9 h.o e2.symm)), fun y hy k e e2 => ?_⟩
  injection e2 with e2; injection e2 with e2; subst e2
  rcases hat with e3 | e3
  · exact (all y hy).2 g e (own_at9 h.o e3)
  · have := ((all y hy).1.lt g (by rw [e]; rfl)).2; omega
end Go.Proofs.YtgnaiahnednllaaGreat
namespace Go.Proofs.YtgnaiahnednllaaGreat
open Go.RowKit
set_option linter.unusedVariables false
set_option maxRecDepth 20000
theorem magic4 (w : World) : Calls Tryz.prog 192 #[] w fun e w' => ∃ a c, e = .returned (.slice a 4 c) ∧ HoldsB w' a 4 [73, 78, 75, 49] ∧ Below w.heap.size w w' := by
  refine (magic_any w).mono ?_
  rintro e w' ⟨a, c, rfl, h1, h2, -⟩
  exact ⟨a, c, rfl, holdsB_of_values (owns_holds h1) (by decide), h2⟩
/-- the loop's state -/
structure RL9 (w0 : World) (r : Nat) (a : Option Addr) (n cap : Nat) (bs : List Nat) (at_ : Nat) (bad : Bool) (NL : List PM) (na : Option Addr) (nc : Nat) (w : World) : Prop where
  rd : RdM r a n cap bs at_ bad w
  q : PR9 w0.heap.size NL na nc w
  nr : ∀ k, na = some ⟨k, 0, none⟩ → k ≠ r
  er : ∀ x ∈ NL, ∀ k, x.ea = some ⟨k, 0, none⟩ → k ≠ r
  r0 : w0.heap.size ≤ r
  b : Below w0.heap.size w0 w
/-- a node was read -/
theorem RL9.step {w0 : World} {r : Nat} {a : Option Addr} {n cap : Nat} {bs : List Nat} {at_ at2 : Nat} {bad bad2 : Bool} {NL : List PM} {na : Option Addr} {nc : Nat} {w w' w8 : World} {x : PM} {g c : Nat} {ob : Obj} (h : RL9 w0 r a n cap bs at_ bad NL na nc w) (ha : ∀ q o, a = some ⟨q, o, none⟩ → q < w0.heap.size) (m : RdM r a n cap bs at2 bad2 w') (t : Turn (fun k => k = r) w w') (hx : w'.ownsRow w.heap.size 314 2 (.slice x.ea x.es.length x.ec) x.es.length (peV x.es))
    (hown : w8.ownsRow w0.heap.size 266 2 (.slice (some ⟨g, 0, none⟩) (NL.length + 1) c) (NL.length + 1) (pmV NL ++ [.bool x.fin, .slice x.ea x.es.length x.ec])) (hg : (w'.alloc ob).grownBy w8 (Value.slice na NL.length nc).ownBlock) (hat : (Value.slice na NL.length nc).ownBlock = some g ∨ g = (w'.alloc ob).heap.size) :
    RL9 w0 r a n cap bs at2 bad2 (NL ++ [x]) (some ⟨g, 0, none⟩) c w8 := by
  have hz : (w'.alloc ob).heap.size = w'.heap.size + 1 := by simp
  have q' : PR9 w0.heap.size NL na nc w' := h.q.turn t h.nr h.er
  have lr : r < w'.heap.size := lt_of_cell m.c0
  have lrw : r < w.heap.size := lt_of_cell h.rd.c0
  have hxb : ∀ k, x.ea = some ⟨k, 0, none⟩ → w.heap.size ≤ k := fun k e => (hx.lt k (by rw [e]; rfl)).1
  have nb : ∀ k, some k = (Value.slice na NL.length nc).ownBlock → na = some ⟨k, 0, none⟩ := fun k e => own_at9 q'.o e.symm
  have t8 : Turn (fun k => some k = (Value.slice na NL.length nc).ownBlock) w' w8 := (Turn.alloc _ w' ob).trans (turn_grown9 hg)
  refine ⟨m.turn t8 (fun e => h.nr r (nb r e) rfl) (fun q o e e2 => ?_), q'.grow (base_less9 hx h.b.size) (fun k e e2 => ?_) hown hg hat, fun k e => ?_, fun y hy k e => ?_, h.r0, ?_⟩
  · have h1 := ha q o e
    have h2 := (q'.o.lt q e2.symm).1
    omega
  · have h1 := hxb k e
    have h2 := (h.q.o.lt k (by rw [e2]; rfl)).2
    omega
  · injection e with e; injection e with e; subst e
    rcases hat with e3 | e3
    · exact h.nr g (own_at9 q'.o e3)
    · omega
  · rcases List.mem_append.1 hy with hy | hy
    · exact h.er y hy k e
    · obtain rfl : y = x := by simpa using hy
      have := hxb k e
      omega
  · have hB := h.b.size
    have t9 : Turn (fun k => w0.heap.size ≤ k) w w8 := ⟨t8.os.trans t.os, t8.tape.trans t.tape, t8.output.trans t.output, Nat.le_trans t.size t8.size, fun k hk hn => (t8.block k (Nat.lt_of_lt_of_le hk t.size) (fun e => hn (q'.o.lt k e.symm).1)).trans (t.block k hk (fun e => hn (by rw [e]; exact h.r0)))⟩
    exact h.b.trans (t9.below (fun k hk => hk) hB)
end Go.Proofs.YtgnaiahnednllaaGreat
namespace Go.Proofs.YtgnaiahnednllaaGreat
open Go.RowKit
set_option linter.unusedVariables false
set_option maxRecDepth 20000
theorem rdE_le (bs : List Nat) (n : Nat) : ∀ (k at_ : Nat) (bad : Bool), at_ ≤ n → (rdE bs n k at_ bad).2.1 ≤ n
  | 0, at_, bad, h => h
  | k + 1, at_, bad, h => by
    rw [rdE_succ]
    simp only
    split
    · exact atR_le (atR_le h)
    · exact rdE_le bs n k _ false (atR_le (atR_le h))
theorem rdN_le (bs : List Nat) (n at_ : Nat) (bad : Bool) (h : at_ ≤ n) : (rdN bs n at_ bad).2.1 ≤ n := rdE_le bs n _ _ _ (atR_le (atR_le h))
def ReadP (w : World) (x : Option (List PN)) (e : Ending) (w' : World) : Prop := Below w.heap.size w w' ∧ match x with
  | some L => ∃ na nc NL, NL.map pmP = L ∧ e = .returned (.tuple #[.slice na NL.length nc, .bool true]) ∧ PR9 w.heap.size NL na nc w'
  | none => ∃ v, e = .returned (.tuple #[v, .bool false])
set_option maxHeartbeats 6400000 in
set_option maxRecDepth 100000 in
theorem read_any (a : Option Addr) (n cap : Nat) (body : List Nat) (w : World) (h : HoldsB w a n body) (hc : n ≤ cap) (hn : n ≤ 1048576) :
    Calls Tryz.prog 140 #[.slice a n cap] w (ReadP w (readP body)) := by
  obtain ⟨i0, hi, hz0, hz1, hz2⟩ := info_parts pnode_info
  have H := Lib.hid h
  have hl := h.len
  have HL := Lib.hid hl
  have CP := Lib.hid (fun (w' : World) a2 c2 (hb : Below w.heap.size w w') (h2 : HoldsB w' a2 4 [73, 78, 75, 49]) => bPrefix_any a a2 n cap 4 c2 body [73, 78, 75, 49] w' (h.below hb) h2 hc (by omega) (by omega) (by omega))
  by_cases hm : body.take 4 = [73, 78, 75, 49]
  · rw [decide_eq_true hm] at CP
    have n4 : 4 ≤ n := by
      have := congrArg List.length hm
      rw [List.length_take, hl] at this
      simp at this; omega
    obtain ⟨q, o, rfl, -⟩ := h.at (by omega)
    obtain ⟨m, hmn⟩ : ∃ m, n - 4 = m := ⟨_, rfl⟩
    have HD : ∃ A : Addr, (if cap = 4 then some (⟨q, o, none⟩ : Addr) else some ⟨q, o + 4, none⟩) = some A ∧ Hid (HoldsB w (some A) m (body.drop 4) ∧ ∀ q2 o2, some A = some (⟨q2, o2, none⟩ : Addr) → q2 < w.heap.size) := by
      have lq : q < w.heap.size := by
        obtain ⟨q2, o2, e, hcc⟩ := h.at (by omega)
        injection e with e; injection e with e1 e2
        subst e1
        exact lt_of_cell (hcc 0 (by omega))
      by_cases h4 : cap = 4
      · refine ⟨⟨q, o, none⟩, by simp [h4], Lib.hid ⟨?_, fun q2 o2 e => by injection e with e; injection e with e1 e2; omega⟩⟩
        obtain rfl : m = 0 := by omega
        rw [List.drop_of_length_le (by omega)]
        exact holdsB_nil _ _
      · refine ⟨⟨q, o + 4, none⟩, by simp [h4], Lib.hid ⟨?_, fun q2 o2 e => by injection e with e; injection e with e1 e2; omega⟩⟩
        have h5 := h.part 4 n (by omega) (Nat.le_refl _) m hmn.symm
        rw [List.take_of_length_le (by omega)] at h5
        exact h5
    obtain ⟨A, hA, hAD⟩ := HD
    obtain ⟨d, hd⟩ : ∃ d, body.drop 4 = d := ⟨_, rfl⟩
    rw [hd] at hAD
    have dl : d.length = m := by rw [← hd, List.length_drop]; omega
    have DB := Lib.hid (show ∀ b ∈ d, b < 256 from fun b hb => h.2 b (List.mem_of_mem_drop (hd ▸ hb)))
    obtain ⟨cnt, hcnt⟩ : ∃ c, numR d m 0 2 false = c := ⟨_, rfl⟩
    obtain ⟨a1, ha1⟩ : ∃ c, atR m 0 2 false = c := ⟨_, rfl⟩
    obtain ⟨b1, hb1⟩ : ∃ c, (!okR m 0 2 false) = c := ⟨_, rfl⟩
    have la1 : a1 ≤ m := ha1 ▸ atR_le (Nat.zero_le _)
    have n5 : (4 : Int) ≤ (n : Int) := by omega
    have n6 : (4 : Int) ≤ (cap : Int) := by omega
    have n7 : 4 ≤ cap := by omega
    have HDD := Lib.hid hd
    clear h hd hl
    go_enter Tryz.func140, Tryz.ntmps140
    go_wp2_with fail
    refine (magic4 w).mono ?_
    rintro e w1 ⟨a2, c2, rfl, h2, hb2⟩
    have C1 := Lib.hid (CP.out w1 a2 c2 hb2 h2)
    have B1 := Lib.hid hb2
    clear h2 hb2 CP
    go_wp2_with fail
    with_reducible refine C1.out.mono ?_
    rintro e w2 ⟨rfl, rfl⟩
    go_wp2_with fail
    refine (magic4 w1).mono ?_
    rintro e w2 ⟨a3, c3, rfl, -, hb2⟩
    have B2 := Lib.hid (B1.out.trans (hb2.mono B1.out.size))
    clear hb2 C1
    have HA := Lib.hid (show ∀ q2 o2, some A = some (⟨q2, o2, none⟩ : Addr) → q2 < w.heap.size from hAD.out.2)
    have CR := Lib.hid (rdRead_any (some A) m (cap - 4) d w2 (hAD.out.1.below B2.out) (fun q2 o2 e => Nat.lt_of_lt_of_le (HA.out q2 o2 e) B2.out.size))
    go_wp2_with fail
    with_reducible refine CR.out.mono ?_
    rintro e w3 ⟨rfl, hR3, hb3, -⟩
    have C3 := Lib.hid (rdNum_any w2.heap.size (some A) m (cap - 4) d 0 false 2 w3 hR3 (by omega) (by omega) (by omega) (by omega))
    rw [hcnt, ha1, hb1, show ((2 : Nat) : Int) = 2 from rfl] at C3
    have B3 := Lib.hid (B2.out.trans (hb3.mono B2.out.size))
    have R0 := B2.out.size
    clear hb3 hR3 CR
    go_wp2_with fail
    with_reducible refine C3.out.mono ?_
    rintro e w4 ⟨rfl, m4, t4⟩
    have R4 := Lib.hid (show RL9 w w2.heap.size (some A) m (cap - 4) d a1 b1 [] none 0 w4 from
      ⟨m4, ⟨World.ownsRow_nil _ _ _ _, fun x hx => (by cases hx), fun x hx => (by cases hx)⟩, fun k e => (by cases e), fun x hx => (by cases hx), R0, B3.out.trans (t4.below (fun k hk => by rw [hk]; exact R0) B3.out.size)⟩)
    have RP := Lib.hid (show readP body = if okR m 0 2 false then (match rdL d m cnt 2 with | some (L, k) => if k = m then some L else none | none => none) else none from by
      unfold readP
      rw [if_pos hm]
      simp only [HDD.out, dl, hcnt]
      all_goals rfl)
    have B10 := Lib.hid (show (b1 = true → cnt = 0) ∧ (b1 = false → a1 = 2 ∧ okR m 0 2 false = true) ∧ (b1 = true → okR m 0 2 false = false) from by
      refine ⟨fun hb => ?_, fun hb => ?_, fun hb => ?_⟩
      · rw [hb] at hb1
        have h1 : okR m 0 2 false = false := by simpa using hb1
        rw [← hcnt]; unfold numR; rw [h1]; rfl
      · rw [hb] at hb1
        have h1 : okR m 0 2 false = true := by simpa using hb1
        exact ⟨by rw [← ha1]; unfold atR; rw [h1]; rfl, h1⟩
      · rw [hb] at hb1
        simpa using hb1)
    have cb : cnt < 65536 := by rw [← hcnt]; exact numR_lt d m 0 2 false DB.out dl
    clear hm hcnt ha1 hb1 C3 m4 t4
    obtain ⟨cp, hcp⟩ : ∃ c, cap - 4 = c := ⟨_, rfl⟩
    rw [hcp] at R4
    go_wp2_with fail
    go_loopw [6, 19] (fun nv iv wr => ∃ (i : Nat) (NL : List PM) (na : Option Addr) (nc at3 : Nat), i ≤ cnt ∧ nv = .slice na NL.length nc ∧ iv = .int .i64 i ∧ at3 ≤ m ∧ NL.length ≤ i ∧ Hid ((rdL d m (cnt - i) at3).map (fun x => (NL.map pmP ++ x.1, x.2)) = rdL d m cnt a1) ∧ Hid (RL9 w w2.heap.size (some A) m cp d at3 b1 NL na nc wr)) (fun _ iv _ => cnt - (intOf iv).toNat)
    case atStart => exact ⟨0, [], none, 0, a1, by omega, rfl, rfl, la1, by simp, Lib.hid (by rw [Nat.sub_zero]; cases rdL d m cnt a1 <;> simp), R4⟩
    case round =>
      clear R4
      obtain ⟨i, NL, na, nc, at3, hi', rfl, rfl, l3, hnl, hE, hL⟩ := hrel
      by_cases hlt : i < cnt
      · have hb : b1 = false := by
          cases b1
          · rfl
          · have := B10.out.1 rfl; omega
        subst hb
        obtain ⟨⟨⟨xf, xe⟩, x2, x3⟩, hx⟩ : ∃ x, rdN d m at3 false = x := ⟨_, rfl⟩
        have lx : x2 ≤ m := by have := rdN_le d m at3 false l3; rw [hx] at this; exact this
        have EX := Lib.hid (show rdL d m (cnt - i) at3 = if x3 then none else (rdL d m (cnt - (i + 1)) x2).map (fun r => ((⟨xf, xe⟩ : PN) :: r.1, r.2)) from by
          rw [show cnt - i = (cnt - (i + 1)) + 1 by omega]
          simp only [rdL, hx])
        have CN := Lib.hid (readNode_any w2.heap.size (some A) m cp d at3 false wr hL.out.rd (by omega) l3 (lt_of_cell hL.out.rd.c0) (fun q2 o2 e => Nat.lt_of_lt_of_le (HA.out q2 o2 e) hL.out.b.size) DB.out dl)
        rw [hx] at CN
        have ZL := hL.out.b.size
        clear hx
        go_wp2_with fail
        with_reducible refine CN.out.mono ?_
        rintro e w5 ⟨ea, ec, rfl, m5, o5, t5⟩
        have O5 := Lib.hid (hL.out.q.turn t5 hL.out.nr hL.out.er).o
        have X5 := Lib.hid (And.intro m5 (And.intro o5 t5))
        have Z5 := t5.size
        clear m5 o5 t5 CN
        dsimp only
        go_wp2_with (at_builtin; refine wpList_append_lies _ rfl (.tmp 21) (.tmp 24) 217 rfl w.heap.size 266 i0 _ 2 32 Tryz.underlying217 hi hz0 hz1 hz2 rfl (by omega) (.slice na NL.length nc) NL.length (pmV NL) (by rfl) (O5.out.alloc _) ⟨w5.heap.size, 0, none⟩ 1 1 [.bool xf, .slice ea xe.length ec] (by rfl) (by rfl) (World.news_of_block (cs := #[.bool xf, .slice ea xe.length ec]) (t := 266) (fr := (0, 0)) (heap_alloc_new w5 _)) (by simp [Value.oneCell']) (by omega) (by unfold maxLen; omega) (by omega) (by simp; omega) (w5.heap.size + 1) (by simp) ?_; intro g8 c8 w8 hown8 hgrow8 hat8 hlt8)
        have LA := Lib.hid (hL.out.step HA.out X5.out.1 X5.out.2.2 (x := ⟨xf, xe, ea, ec⟩) X5.out.2.1 hown8 hgrow8 (hat8.imp id (fun e => by rw [e]; simp)))
        clear hown8 hgrow8 hat8 hlt8 X5 O5
        have CB := Lib.hid (rdBad_any w2.heap.size (some A) m cp d x2 x3 w8 LA.out.rd)
        with_reducible refine CB.out.mono ?_
        rintro e w9 ⟨rfl, rfl⟩
        cases x3 with
        | true =>
          have RN := Lib.hid (show readP body = none from by
            have h1 := hE.out
            rw [EX.out] at h1
            obtain ⟨e1, e2⟩ := B10.out.2.1 (by first | rfl | trivial)
            rw [e1] at h1
            rw [RP.out, e2, if_pos rfl, ← h1]; rfl)
          have BZ := Lib.hid LA.out.b
          clear LA
          go_wp2_with fail
          go_ret2
          refine ⟨BZ.out, ?_⟩
          rw [RN.out]
          exact ⟨_, rfl⟩
        | false =>
          have EN := Lib.hid (show (rdL d m (cnt - (i + 1)) x2).map (fun x => ((NL ++ [(⟨xf, xe, ea, ec⟩ : PM)]).map pmP ++ x.1, x.2)) = rdL d m cnt a1 from by
            rw [← hE.out, EX.out]
            cases rdL d m (cnt - (i + 1)) x2 <;> simp [pmP])
          go_wp2_with fail
          go_roundw
          case rel => exact ⟨i + 1, NL ++ [⟨xf, xe, ea, ec⟩], some ⟨g8, 0, none⟩, c8, x2, by omega, by simp, by go_num, lx, by simp; omega, EN, LA⟩
          case measure => simp [intOf] <;> omega
      · obtain rfl : i = cnt := by omega
        have CD := Lib.hid (rdDone_any w2.heap.size (some A) m cp d at3 b1 wr hL.out.rd)
        have ED := Lib.hid (show rdL d m i a1 = some (NL.map pmP, at3) from by
          have h1 := hE.out
          rw [Nat.sub_self] at h1
          rw [← h1]; simp [rdL])
        have FB := Lib.hid hL.out.b
        have FQ := Lib.hid hL.out.q
        clear hE hL
        go_wp2_with fail
        with_reducible refine CD.out.mono ?_
        rintro e w5 ⟨rfl, hb5⟩
        have Q5 := Lib.hid (FQ.out.turn (T := fun _ => False) (Turn.of_below hb5) (fun _ _ x => x) (fun _ _ _ _ x => x))
        have BZ := Lib.hid (FB.out.trans (hb5.mono FB.out.size))
        clear hb5
        go_wp2_with fail
        go_ret2
        refine ⟨BZ.out, ?_⟩
        rw [RP.out]
        cases hb : b1 with
        | true => rw [B10.out.2.2 hb]; exact ⟨_, rfl⟩
        | false =>
          obtain ⟨e1, e2⟩ := B10.out.2.1 hb
          have h1 := ED.out
          rw [e1] at h1
          rw [e2, if_pos rfl, h1]
          by_cases hk : at3 = m
          · simp only [hk, if_true]
            exact ⟨na, nc, NL, rfl, rfl, Q5.out⟩
          · simp only [hk, if_false]
            exact ⟨_, rfl⟩
  · rw [decide_eq_false hm] at CP
    have RN : readP body = none := by unfold readP; rw [if_neg hm]
    rw [RN]
    clear hm h hl RN
    go_enter Tryz.func140, Tryz.ntmps140
    go_wp2_with fail
    refine (magic4 w).mono ?_
    rintro e w1 ⟨a2, c2, rfl, h2, hb2⟩
    have C1 := Lib.hid (CP.out w1 a2 c2 hb2 h2)
    have B1 := Lib.hid hb2
    clear h2 hb2 CP
    go_wp2_with fail
    with_reducible refine C1.out.mono ?_
    rintro e w2 ⟨rfl, rfl⟩
    go_wp2_with fail
    go_ret2
    exact ⟨B1.out, _, rfl⟩
end Go.Proofs.YtgnaiahnednllaaGreat
namespace Go.Proofs.YtgnaiahnednllaaGreat
open Go.Shelf Go.RowKit
def Tryz.lays169_ren : Go.Shelf.Ren := ⟨fun | 169 => 254 | n => n, fun | 70 => 344 | 9 => 9 | 0 => 0 | 72 => 346 | 37 => 136 | 127 => 360 | 3 => 3 | 5 => 5 | n => n, fun | n => n⟩
theorem Tryz.lays169 : Go.Proofs.Lays.n169 Tryz.prog Tryz.lays169_ren := {
  mixed := by kernel_rfl
  f169 := Tryz.func254.trans (congrArg some (by kernel_rfl))
  t0 := Tryz.underlying0
  a0 := Tryz.isAgg0
  z0 := Tryz.sizeOf0
  v0 := Tryz.zeroValue0
  t3 := Tryz.underlying3
  a3 := Tryz.isAgg3
  z3 := Tryz.sizeOf3
  v3 := Tryz.zeroValue3
  t9 := Tryz.underlying9
  a9 := Tryz.isAgg9
  z9 := Tryz.sizeOf9
  v9 := Tryz.zeroValue9
  t37 := Tryz.underlying136
  a37 := Tryz.isAgg136
  z37 := Tryz.sizeOf136
  v37 := Tryz.zeroValue136
  t70 := Tryz.underlying344
  a70 := Tryz.isAgg344
  z70 := Tryz.sizeOf344
  v70 := Tryz.zeroValue344
  t72 := Tryz.underlying346
  a72 := Tryz.isAgg346
  z72 := Tryz.sizeOf346
  v72 := Tryz.zeroValue346
  t127 := Tryz.underlying360
  a127 := Tryz.isAgg360
  z127 := Tryz.sizeOf360
  v127 := Tryz.zeroValue360 }
theorem Tryz.Builder_Extra_169 : Builder.Extra Tryz.prog Tryz.lays169_ren := {
  sizeBuilder := by kernel_rfl
  liesBuilder := by kernel_rfl
  t5 := Tryz.underlying5
  a5 := Tryz.isAgg5
  z5 := Tryz.sizeOf5
  v5 := Tryz.zeroValue5
  infoByte := by kernel_rfl
  cellsByte := by kernel_rfl
  sizeByte := by kernel_rfl
  neB5 := by decide }
theorem bstring_any (B b : Nat) (l : List UInt8) (w : World) (h : Lib.IsBuilderF 346 5 B b (Lib.byteCells l) w) (hBw : B ≤ w.heap.size) :
    Calls Tryz.prog 254 #[.pointer (some ⟨b, 0, none⟩)] w fun e w' => e = .returned (.string ⟨l.toArray⟩) ∧ (Lib.IsBuilderF 346 5 B b (Lib.byteCells l) w' ∧ Below B w w' ∧ Lib.OthersKept 5 (some b) w w') := Any.Builder_String_any_k Tryz.lays169 Tryz.Builder_Extra_169 B b l w h hBw
def Tryz.lays242_ren : Go.Shelf.Ren := ⟨fun | 242 => 261 | 278 => 264 | n => n, fun | 37 => 136 | 21 => 21 | 51 => 257 | 4 => 4 | 5 => 5 | 46 => 151 | n => n, fun | n => n⟩
theorem Tryz.lays242 : Go.Proofs.Lays.n242 Tryz.prog Tryz.lays242_ren := {
  mixed := by kernel_rfl
  f242 := Tryz.func261.trans (congrArg some (by kernel_rfl))
  f278 := Tryz.func264.trans (congrArg some (by kernel_rfl))
  t4 := Tryz.underlying4
  a4 := Tryz.isAgg4
  z4 := Tryz.sizeOf4
  v4 := Tryz.zeroValue4
  t5 := Tryz.underlying5
  a5 := Tryz.isAgg5
  z5 := Tryz.sizeOf5
  v5 := Tryz.zeroValue5
  t21 := Tryz.underlying21
  a21 := Tryz.isAgg21
  z21 := Tryz.sizeOf21
  v21 := Tryz.zeroValue21
  t37 := Tryz.underlying136
  a37 := Tryz.isAgg136
  z37 := Tryz.sizeOf136
  v37 := Tryz.zeroValue136
  t46 := Tryz.underlying151
  a46 := Tryz.isAgg151
  z46 := Tryz.sizeOf151
  v46 := Tryz.zeroValue151
  t51 := Tryz.underlying257
  a51 := Tryz.isAgg257
  z51 := Tryz.sizeOf257
  v51 := Tryz.zeroValue257 }
theorem appendRune_any (B : Nat) (v : Value) (n : Nat) (xs : List Value) (r : Int) (hr0 : -2147483648 ≤ r) (hr1 : r ≤ 2147483647) (w : World) (hown : w.ownsRowF B 5 1 v n xs) (hlen : n + 4 ≤ 140737488355328) (hBw : B ≤ w.heap.size) :
    Calls Tryz.prog 261 #[v, .int .i32 r] w fun e w' => ∃ v', e = .returned v' ∧ w'.ownsRowF B 5 1 v' (n + (Lib.runeCells r).length) (xs ++ Lib.runeCells r) ∧ ∃ o, (w.alloc o).grownBy w' v.ownBlock :=
  Any.utf8_AppendRune_row Tryz.lays242 (by kernel_rfl) B v n xs r hr0 hr1 w hown hlen hBw
theorem builder_size : (Tryz.prog.info? 346).map (·.size) = some 2 := by kernel_rfl
set_option maxHeartbeats 1000000 in
theorem copyCheck_used (b : Nat) (w : World) (h0 : w.cell? ⟨b, 0, none⟩ = some (.pointer (some ⟨b, 0, none⟩))) :
    Calls Tryz.prog 260 #[.pointer (some ⟨b, 0, none⟩)] w fun e w' => e = .returned (.tuple #[]) ∧ w' = w := by
  obtain ⟨j, hj, _⟩ := Option.map_eq_some_iff.1 builder_size
  have hq := Lib.run_neq_ptr_same (P := Tryz.prog) (w := w) ⟨b, 0, none⟩ Tryz.underlying344 hj
  go_enter Tryz.func260, Tryz.ntmps260
  go_wp2
  go_end0
  exact ⟨rfl, rfl⟩
set_option maxHeartbeats 1000000 in
theorem copyCheck_fresh (b : Nat) (w : World) (h0 : w.cell? ⟨b, 0, none⟩ = some (.pointer none)) (hsh : w.shape? b = some (346, 2)) (hfz : w.frozen? ⟨b, 0, none⟩ = false) :
    Calls Tryz.prog 260 #[.pointer (some ⟨b, 0, none⟩)] w fun e w' => e = .returned (.tuple #[]) ∧ w' = w.setCell ⟨b, 0, none⟩ (.pointer (some ⟨b, 0, none⟩)) := by
  obtain ⟨j, hj, hjs⟩ := Option.map_eq_some_iff.1 builder_size
  have c1 := Lib.run_to_unsafe (P := Tryz.prog) w ⟨b, 0, none⟩ Tryz.underlying344 Tryz.underlying361 hj (by rw [hjs]; decide) hsh (Nat.zero_lt_succ 1)
  have c2 := Lib.run_from_unsafe (P := Tryz.prog) w ⟨b, 0, none⟩ Tryz.underlying361 Tryz.underlying344 hj hsh (by kernel_rfl)
  have c3 := run_callFunc_extern (P := Tryz.prog) Tryz.func263 (by kernel_rfl) (by kernel_rfl) (by kernel_rfl) (e := Extern.AbiNoEscape.same) (by kernel_rfl) #[.pointer (some ⟨b, 0, none⟩)] w
  rw [Lib.run_noEscape] at c3
  simp only [Result.andThen] at c3
  go_enter Tryz.func260, Tryz.ntmps260
  go_wp2
  go_end0
  exact ⟨rfl, rfl⟩
theorem copyCheck_any (B b : Nat) (bs : List Value) (w : World) (h : Lib.IsBuilderF 346 5 B b bs w) :
    Calls Tryz.prog 260 #[.pointer (some ⟨b, 0, none⟩)] w fun e w' => e = .returned (.tuple #[]) ∧ (Lib.BuilderAtF 346 5 B b (.pointer (some ⟨b, 0, none⟩)) bs w' ∧ Below B w w') := by
  rcases h with h | h
  · refine (copyCheck_fresh b w h.cell0 h.shape h.frozen0).mono ?_
    rintro e w' ⟨rfl, rfl⟩
    exact ⟨rfl, h.used _, (Below.refl B w).setCell (p := ⟨b, 0, none⟩) h.1 _⟩
  · refine (copyCheck_used b w h.cell0).mono ?_
    rintro e w' ⟨rfl, rfl⟩
    exact ⟨rfl, h, Below.refl B _⟩
set_option maxHeartbeats 4000000 in
theorem bwrite_any (B b : Nat) (bs : List Value) (r : Int) (hr0 : -2147483648 ≤ r) (hr1 : r ≤ 2147483647) (w : World) (h : Lib.IsBuilderF 346 5 B b bs w) (hlen : bs.length + 4 ≤ 140737488355328) (hBw : B ≤ w.heap.size) :
    Calls Tryz.prog 253 #[.pointer (some ⟨b, 0, none⟩), .int .i32 r] w fun e w' => e = .returned (.tuple #[.int .i64 (Lib.runeCells r).length, .nilIface]) ∧ (Lib.BuilderAtF 346 5 B b (.pointer (some ⟨b, 0, none⟩)) (bs ++ Lib.runeCells r) w' ∧ Below B w w') := by
  have hk4 := Lib.runeCells_le r
  go_enter Tryz.func253, Tryz.ntmps253
  go_wp2_with fail
  refine (copyCheck_any B b bs _ h).mono ?_
  rintro e w1 ⟨rfl, h1, hb1⟩
  obtain ⟨hB, v, hbk, hown, hne⟩ := h1
  obtain ⟨ao, cap, rfl⟩ : ∃ ao cap, v = .slice ao bs.length cap := by
    rcases hown.2 with ⟨hv, h0⟩ | ⟨g, cap, cur, fz, hv, _⟩
    · exact ⟨none, 0, by rw [hv, h0]⟩
    · exact ⟨_, _, hv⟩
  have c0 : w1.cell? ⟨b, 0, none⟩ = some (.pointer (some ⟨b, 0, none⟩)) := by rw [Lib.cell_of_heap hbk]; rfl
  have c1 : w1.cell? ⟨b, 1, none⟩ = some (.slice ao bs.length cap) := by rw [Lib.cell_of_heap hbk]; rfl
  go_wp2_with (go_at_call 261; refine (appendRune_any B _ bs.length bs r hr0 hr1 _ hown hlen (by have := hb1.size; omega)).mono ?_)
  rintro e w2 ⟨v', rfl, hown', o, hgrow⟩
  have hlt : b < w1.heap.size := by
    rcases Nat.lt_or_ge b w1.heap.size with h' | h'
    · exact h'
    · simp [Array.getElem?_eq_none h'] at hbk
  have hb2 : w2.heap[b]? = some (.cells #[.pointer (some ⟨b, 0, none⟩), .slice ao bs.length cap] 346 (0, 0)) := by
    rw [hgrow.block b (by simp; omega) (fun e => hne e.symm), Lib.alloc_old w1 _ b hlt]
    exact hbk
  have d0 : w2.cell? ⟨b, 0, none⟩ = some (.pointer (some ⟨b, 0, none⟩)) := by rw [Lib.cell_of_heap hb2]; rfl
  have d1 : w2.cell? ⟨b, 1, none⟩ = some (.slice ao bs.length cap) := by rw [Lib.cell_of_heap hb2]; rfl
  have f1 : w2.frozen? ⟨b, 1, none⟩ = false := Lib.frozen_of_heap hb2 1
  obtain ⟨g, cap', rfl⟩ : ∃ g cap', v' = .slice (some ⟨g, 0, none⟩) (bs.length + (Lib.runeCells r).length) cap' := by
    rcases hown'.2 with ⟨_, h0⟩ | ⟨g, cap', cur, fz, hv, _⟩
    · omega
    · exact ⟨g, cap', hv⟩
  go_wp2
  go_ret2
  refine ⟨?_, ?_, ?_⟩
  · have e : ((bs.length : Int) + ((Lib.runeCells r).length : Int) - (bs.length : Int)) = ((Lib.runeCells r).length : Int) := by omega
    simp [e]
  · exact Lib.BuilderAtF.put (T := 346) (e := 5) hB hb2 (bs' := bs ++ Lib.runeCells r) (by simpa using hown') (by decide)
  · exact ((hb1.alloc (by have := hb1.size; omega) _).grown hgrow (by have := hb1.size; simp; omega) (fun k hk => (hown.lt k hk).1)).setCell (p := ⟨b, 1, none⟩) hB _
end Go.Proofs.YtgnaiahnednllaaGreat
namespace Go.Proofs.YtgnaiahnednllaaGreat
open Go.RowKit
set_option linter.unusedVariables false
set_option maxRecDepth 20000
theorem valid_any (r : Int) (w : World) : Calls Tryz.prog 252 #[.int .i32 r] w fun e w' => e = .returned (.bool (decide (0 ≤ r ∧ r ≤ 1114111 ∧ (r < 55296 ∨ 57343 < r)))) ∧ w = w' := by
  have hc : r < 0 ∨ (0 ≤ r ∧ r < 55296) ∨ (55296 ≤ r ∧ r ≤ 57343) ∨ (57343 < r ∧ r ≤ 1114111) ∨ 1114111 < r := by omega
  rcases hc with h | h | h | h | h
  · rw [decide_eq_false (by omega)]
    go_enter Tryz.func252, Tryz.ntmps252
    go_wp2
    go_ret
    exact ⟨rfl, rfl⟩
  · rw [decide_eq_true (by omega)]
    go_enter Tryz.func252, Tryz.ntmps252
    go_wp2
    go_ret
    exact ⟨rfl, rfl⟩
  · rw [decide_eq_false (by omega)]
    go_enter Tryz.func252, Tryz.ntmps252
    go_wp2
    go_ret
    exact ⟨rfl, rfl⟩
  · rw [decide_eq_true (by omega)]
    go_enter Tryz.func252, Tryz.ntmps252
    go_wp2
    go_ret
    exact ⟨rfl, rfl⟩
  · rw [decide_eq_false (by omega)]
    go_enter Tryz.func252, Tryz.ntmps252
    go_wp2
    go_ret
    exact ⟨rfl, rfl⟩
def encL (zs : List Int) : List UInt8 := zs.flatMap Lib.encodeRune
def encB (zs : List Int) : ByteArray := ⟨(encL zs).toArray⟩
def allG (zs : List Int) : Prop := ∀ z ∈ zs, goodP z
instance (zs : List Int) : Decidable (allG zs) := by unfold allG; infer_instance
def textZ (zs : List Int) : ByteArray := if allG zs then encB zs else ⟨#[]⟩
theorem encL_snoc (x : List Int) (r : Int) : encL (x ++ [r]) = encL x ++ Lib.encodeRune r := by simp [encL]
theorem encode_le (r : Int) : (Lib.encodeRune r).length ≤ 4 := by rw [← Lib.runeCells_length]; exact (Lib.runeCells_le r).2
theorem encL_le : ∀ zs : List Int, (encL zs).length ≤ 4 * zs.length
  | [] => by simp [encL]
  | z :: zs => by
    have h1 := encL_le zs
    have h2 := encode_le z
    have h3 : encL (z :: zs) = Lib.encodeRune z ++ encL zs := rfl
    rw [h3, List.length_append, List.length_cons]; omega
theorem encB_size (zs : List Int) : (encB zs).size ≤ 4 * zs.length := by
  have := encL_le zs
  simpa [encB, ByteArray.size] using this
theorem byteCells_snoc (x : List Int) (r : Int) : Lib.byteCells (encL x) ++ Lib.runeCells r = Lib.byteCells (encL (x ++ [r])) := by
  rw [encL_snoc, Lib.byteCells_append, Lib.byteCells_encodeRune]
theorem textZ_bad {zs : List Int} (z : Int) (h : z ∈ zs) (hz : ¬ goodP z) : textZ zs = ⟨#[]⟩ ∧ decide (allG zs) = false := by
  have hn : ¬ allG zs := fun k => hz (k z h)
  exact ⟨if_neg hn, decide_eq_false hn⟩
theorem textZ_good {zs : List Int} (h : allG zs) : textZ zs = encB zs ∧ decide (allG zs) = true := ⟨if_pos h, decide_eq_true h⟩
theorem getD_mem' (zs : List Int) (j : Nat) (h : j < zs.length) : zs.getD j 0 ∈ zs := by
  rw [List.getD_eq_getElem?_getD, List.getElem?_eq_getElem h]; simp
set_option maxHeartbeats 1600000 in
theorem text_any (a : Option Addr) (n cap : Nat) (zs : List Int) (w : World) (hh : HoldsI .i32 w a n zs) (hn : n ≤ 1048576) (hr : ∀ z ∈ zs, -2147483648 ≤ z ∧ z ≤ 2147483647) :
    Calls Tryz.prog 231 #[.slice a n cap] w fun e w' => e = .returned (.tuple #[.string (textZ zs), .bool (decide (allG zs))]) ∧ Below w.heap.size w w' := by
  have hl := hh.len
  go_enter Tryz.func231, Tryz.ntmps231
  go_wp2_with fail
  go_loopw [9] (fun cv wr => ∃ j : Nat, j ≤ n ∧ cv = .int .i64 j ∧ Hid (allG (zs.take j)) ∧ Hid (Lib.IsBuilderF 346 5 w.heap.size w.heap.size (Lib.byteCells (encL (zs.take j))) wr) ∧ Hid (Below w.heap.size w wr)) (fun cv _ => n - (intOf cv).toNat)
  case atStart =>
    refine ⟨0, by omega, rfl, Lib.hid (by simp [allG]), Lib.hid (Lib.IsBuilderF.of (Lib.fresh_isBuilder _ _ w)), Lib.hid (below_one _ _)⟩
  case round =>
    obtain ⟨j, hj, rfl, hG, hI, hB⟩ := hrel
    have hs := hB.out.size
    by_cases hlt : j < n
    · obtain ⟨b, o, rfl, hc⟩ := (hh.below hB.out).at (by omega)
      have e1 := hc j hlt
      have hrj := hr _ (getD_mem' zs j (by omega))
      have hmem := getD_mem' zs j (by omega)
      have htk := take_succ_getD zs 0 j (by omega)
      obtain ⟨x, hx⟩ : ∃ x, zs.getD j 0 = x := ⟨_, rfl⟩
      rw [hx] at e1 hrj hmem htk
      have HM := Lib.hid hmem; have HT := Lib.hid htk
      clear hx hmem htk hc
      by_cases hbad : x = 65533
      · subst hbad
        have hb := textZ_bad 65533 HM.out (by unfold goodP; omega)
        have HB := Lib.hid hb
        clear hb
        go_wp2_with fail
        go_ret2
        exact ⟨by rw [HB.out.1, HB.out.2]; rfl, hB.out⟩
      · have hb : (x == 65533) = false := by rw [beq_eq_false_iff_ne]; exact hbad
        have HBD := Lib.hid hbad
        clear hbad
        by_cases hv : 0 ≤ x ∧ x ≤ 1114111 ∧ (x < 55296 ∨ 57343 < x)
        · have hval := fun w => valid_any x w
          rw [decide_eq_true hv] at hval
          have hg : goodP x := ⟨hv.1, hv.2.1, hv.2.2, HBD.out⟩
          have HG := Lib.hid hg; have HV := Lib.hid hval
          clear hv hval hg
          go_wp2_with fail
          refine (HV.out _).mono ?_
          rintro e w' ⟨rfl, rfl⟩
          go_wp2_with fail
          have hlen : (encL (zs.take j)).length ≤ 4 * j := by
            have h1 := encL_le (zs.take j)
            have h2 : (zs.take j).length ≤ j := List.length_take_le _ _
            omega
          refine (bwrite_any w.heap.size w.heap.size _ x hrj.1 hrj.2 _ hI.out (by rw [Lib.byteCells_length]; omega) hs).mono ?_
          rintro e w2 ⟨rfl, hb2, hb3⟩
          rw [byteCells_snoc, ← HT.out] at hb2
          go_wp2_with fail
          go_roundw
          case rel => exact ⟨j + 1, by omega, by go_num, Lib.hid (by rw [HT.out]; intro z hz; rcases List.mem_append.1 hz with hz | hz; exact hG.out z hz; simp at hz; rw [hz]; exact HG.out), Lib.hid (Or.inr hb2), Lib.hid (hB.out.trans hb3)⟩
          case measure => simp [intOf]; omega
        · have hval := fun w => valid_any x w
          rw [decide_eq_false hv] at hval
          have hb2 := textZ_bad x HM.out (fun k => hv ⟨k.1, k.2.1, k.2.2.1⟩)
          have HV := Lib.hid hval; have HB := Lib.hid hb2
          clear hv hval hb2
          go_wp2_with fail
          refine (HV.out _).mono ?_
          rintro e w' ⟨rfl, rfl⟩
          go_wp2_with fail
          go_ret2
          exact ⟨by rw [HB.out.1, HB.out.2]; rfl, hB.out⟩
    · have hjn : zs.take j = zs := List.take_of_length_le (by omega)
      have HJ := Lib.hid hjn
      clear hjn
      go_wp2_with fail
      refine (bstring_any w.heap.size w.heap.size _ _ hI.out hs).mono ?_
      rintro e w2 ⟨rfl, _, hb2, _⟩
      go_wp2_with fail
      go_ret2
      have hg := textZ_good (show allG zs by have := hG.out; rw [HJ.out] at this; exact this)
      exact ⟨by rw [hg.1, hg.2, HJ.out]; rfl, hB.out.trans hb2⟩
end Go.Proofs.YtgnaiahnednllaaGreat
namespace Go.Proofs.YtgnaiahnednllaaGreat
open Go.RowKit
set_option linter.unusedVariables false
set_option maxRecDepth 20000
/-- a label as a rune -/
def runeL (x : Nat) : Int := IntKind.i32.wrap (x : Int)
def labT (x : Nat) : Tx := textZ [runeL x]
instance allG_dec (zs : List Int) : Decidable (allG zs) := by unfold allG; infer_instance
/-- over a node's edges: is all well, how many beginnings are left, the words -/
def folE (rf : Nat → Tx → Nat → List Tx → Bool × Nat × List Tx) (pre : Tx) : List PE → Nat → List Tx → Bool × Nat × List Tx
  | [], left, ws => (true, left, ws)
  | e :: es, left, ws =>
    if allG [runeL e.1] then
      (if (rf e.2 (pre ++ labT e.1) left ws).1 then folE rf pre es (rf e.2 (pre ++ labT e.1) left ws).2.1 (rf e.2 (pre ++ labT e.1) left ws).2.2 else (false, (rf e.2 (pre ++ labT e.1) left ws).2))
    else (false, left, ws)
def folF (L : List PN) : Nat → Nat → Tx → Nat → List Tx → Bool × Nat × List Tx
  | 0, n, pre, left, ws => (false, left, ws)
  | f + 1, n, pre, left, ws =>
    if L.length ≤ n ∨ left = 0 then (false, left, ws)
    else folE (folF L f) pre (L.getD n ⟨false, []⟩).es (left - 1) (if (L.getD n ⟨false, []⟩).fin then ws ++ [pre] else ws)
theorem folE_left {rf : Nat → Tx → Nat → List Tx → Bool × Nat × List Tx} (h : ∀ n pre left ws, (rf n pre left ws).2.1 ≤ left) (pre : Tx) : ∀ (es : List PE) (left : Nat) (ws : List Tx), (folE rf pre es left ws).2.1 ≤ left
  | [], left, ws => Nat.le_refl _
  | e :: es, left, ws => by
    unfold folE
    split
    · split
      · exact Nat.le_trans (folE_left h pre es _ _) (h _ _ _ _)
      · exact h _ _ _ _
    · exact Nat.le_refl _
theorem folF_left (L : List PN) : ∀ (f n : Nat) (pre : Tx) (left : Nat) (ws : List Tx), (folF L f n pre left ws).2.1 ≤ left
  | 0, n, pre, left, ws => Nat.le_refl _
  | f + 1, n, pre, left, ws => by
    unfold folF
    split
    · exact Nat.le_refl _
    · exact Nat.le_trans (folE_left (folF_left L f) pre _ _ _) (Nat.sub_le _ _)
/-- the lister: the nodes it goes over, how many beginnings are left, the words so far -/
structure FL9 (l : Nat) (NL : List PM) (na : Option Addr) (nc left : Nat) (ws : List Tx) (wa : Option Addr) (wc : Nat) (w : World) : Prop where
  c0 : w.cell? ⟨l, 0, none⟩ = some (.slice na NL.length nc)
  c1 : w.cell? ⟨l, 1, none⟩ = some (.int .i64 left)
  c2 : w.cell? ⟨l, 2, none⟩ = some (.slice wa ws.length wc)
  f : ∀ i, w.frozen? ⟨l, i, none⟩ = false
  o : w.ownsRow (l + 1) 9 1 (.slice wa ws.length wc) ws.length (strsV ws)
  p : PR9 0 NL na nc w
  pl : ∀ k, na = some ⟨k, 0, none⟩ → k < l
  pe : ∀ x ∈ NL, ∀ k, x.ea = some ⟨k, 0, none⟩ → k < l
theorem FL9.below {l : Nat} {NL : List PM} {na : Option Addr} {nc left : Nat} {ws : List Tx} {wa : Option Addr} {wc : Nat} {w w' : World} (h : FL9 l NL na nc left ws wa wc w) (hb : Below w.heap.size w w') : FL9 l NL na nc left ws wa wc w' := by
  have lt := lt_of_cell h.c0
  exact ⟨(hb.cell (p := ⟨l, 0, none⟩) lt).trans h.c0, (hb.cell (p := ⟨l, 1, none⟩) lt).trans h.c1, (hb.cell (p := ⟨l, 2, none⟩) lt).trans h.c2, fun i => (hb.frozen (p := ⟨l, i, none⟩) lt).trans (h.f i), owns_below h.o hb, h.p.turn (T := fun _ => False) (Turn.of_below hb) (fun _ _ x => x) (fun _ _ _ _ x => x), h.pl, h.pe⟩
/-- a beginning fewer -/
theorem FL9.less {l : Nat} {NL : List PM} {na : Option Addr} {nc left left2 : Nat} {ws : List Tx} {wa : Option Addr} {wc : Nat} {w : World} (h : FL9 l NL na nc left ws wa wc w) : FL9 l NL na nc left2 ws wa wc (w.setCell ⟨l, 1, none⟩ (.int .i64 (left2 : Int))) := by
  have t : Turn (fun k => k = l) w (w.setCell ⟨l, 1, none⟩ (.int .i64 (left2 : Int))) := Turn.setCell rfl
  exact ⟨(cset_ne (by omega)).trans h.c0, cset_at h.c1, (cset_ne (by omega)).trans h.c2, fun i => fset_any.trans (h.f i), own_turn9 h.o t (fun k e e2 => by have := (h.o.lt k (by rw [e]; rfl)).1; omega), h.p.turn t (fun k e e2 => by have := h.pl k e; omega) (fun x hx k e e2 => by have := h.pe x hx k e; omega), h.pl, h.pe⟩
/-- a word more -/
theorem FL9.word {l : Nat} {NL : List PM} {na : Option Addr} {nc left : Nat} {ws : List Tx} {wa : Option Addr} {wc g c : Nat} {t : Tx} {w w8 : World} {ob : Obj} (h : FL9 l NL na nc left ws wa wc w) (hown : w8.ownsRow (l + 1) 9 1 (.slice (some ⟨g, 0, none⟩) (ws.length + 1) c) (ws.length + 1) (strsV ws ++ [.string t])) (hg : (w.alloc ob).grownBy w8 (Value.slice wa ws.length wc).ownBlock) (hat : (Value.slice wa ws.length wc).ownBlock = some g ∨ g = (w.alloc ob).heap.size) :
    FL9 l NL na nc left (ws ++ [t]) (some ⟨g, 0, none⟩) c (w8.setCell ⟨l, 2, none⟩ (.slice (some ⟨g, 0, none⟩) (ws.length + 1) c)) ∧ Below l w (w8.setCell ⟨l, 2, none⟩ (.slice (some ⟨g, 0, none⟩) (ws.length + 1) c)) := by
  have ll := lt_of_cell h.c0
  have hz : (w.alloc ob).heap.size = w.heap.size + 1 := by simp
  have nb : ∀ k, some k = (Value.slice wa ws.length wc).ownBlock → l + 1 ≤ k := fun k e => (h.o.lt k e.symm).1
  have gl : l < g := by
    rcases hat with e | e
    · have := nb g e.symm; omega
    · omega
  have t1 : Turn (fun k => l + 1 ≤ k) w w8 := (Turn.alloc _ w ob).trans ⟨hg.os, hg.tape, hg.output, hg.size, fun k hk hn => hg.block k hk (fun e => hn (nb k e))⟩
  have t2 : Turn (fun k => l ≤ k) w (w8.setCell ⟨l, 2, none⟩ (.slice (some ⟨g, 0, none⟩) (ws.length + 1) c)) := Turn.trans ⟨t1.os, t1.tape, t1.output, t1.size, fun k hk hn => t1.block k hk (by omega)⟩ (Turn.setCell (Nat.le_refl l))
  have hc : ∀ i, w8.cell? ⟨l, i, none⟩ = w.cell? ⟨l, i, none⟩ := fun i => t1.cell ll (by omega)
  have el : (ws ++ [t]).length = ws.length + 1 := by rw [List.length_append]; rfl
  refine ⟨⟨(cset_ne (by omega)).trans ((hc 0).trans h.c0), (cset_ne (by omega)).trans ((hc 1).trans h.c1), ?_, fun i => fset_any.trans ((t1.frozen ll (by omega)).trans (h.f i)), ?_, h.p.turn t2 (fun k e e2 => by have := h.pl k e; omega) (fun x hx k e e2 => by have := h.pe x hx k e; omega), h.pl, h.pe⟩, t2.below (fun k hk => hk) (Nat.le_of_lt ll)⟩
  · rw [el]; exact cset_at ((hc 2).trans h.c2)
  · rw [el, show strsV (ws ++ [t]) = strsV ws ++ [.string t] by simp [strsV]]
    exact gowns_block hown (fun q e => by
      injection e with e; injection e with e
      obtain rfl : g = q := e
      exact Below.heap_setCell _ _ _ _ (show g ≠ l by omega))
end Go.Proofs.YtgnaiahnednllaaGreat
namespace Go.Proofs.YtgnaiahnednllaaGreat
open Go.RowKit
set_option linter.unusedVariables false
set_option maxRecDepth 20000
theorem strL_info : (Tryz.prog.info? 9).map (fun i => (i.zero, i.size, i.bytes)) = some (some (.string ⟨#[]⟩), 1, 16) := by kernel_rfl
theorem FL9.at {l : Nat} {NL : List PM} {na : Option Addr} {nc left : Nat} {ws : List Tx} {wa : Option Addr} {wc : Nat} {w : World} (h : FL9 l NL na nc left ws wa wc w) {i : Nat} (hi : i < NL.length) : ∃ q, na = some ⟨q, 0, none⟩ ∧ w.cell? ⟨q, i * 2, none⟩ = some (.bool (NL.getD i pm0).fin) ∧ w.cell? ⟨q, i * 2 + 1, none⟩ = some (.slice (NL.getD i pm0).ea (NL.getD i pm0).es.length (NL.getD i pm0).ec) := by
  obtain ⟨q, cap', hv⟩ := Joins.ownsRow_form h.p.o (by omega)
  simp only [Value.slice.injEq] at hv
  obtain ⟨hv, -, -⟩ := hv
  subst hv
  obtain ⟨v0, v1⟩ := pmV_at NL i hi
  exact ⟨q, rfl, (h.p.o.cellAt (i * 2) (by omega)).trans v0, (h.p.o.cellAt (i * 2 + 1) (by omega)).trans v1⟩
theorem pe_at {w : World} {B c : Nat} {a : Option Addr} {es : List PE} (h : w.ownsRow B 314 2 (.slice a es.length c) es.length (peV es)) {i : Nat} (hi : i < es.length) : ∃ q, a = some ⟨q, 0, none⟩ ∧ w.cell? ⟨q, i * 2, none⟩ = some (.int .i64 ((es.getD i (0, 0)).1 : Int)) ∧ w.cell? ⟨q, i * 2 + 1, none⟩ = some (.int .i64 ((es.getD i (0, 0)).2 : Int)) := by
  obtain ⟨q, cap', hv⟩ := Joins.ownsRow_form h (by omega)
  simp only [Value.slice.injEq] at hv
  obtain ⟨hv, -, -⟩ := hv
  subst hv
  obtain ⟨v0, v1⟩ := peV_at es i hi
  exact ⟨q, rfl, (h.cellAt (i * 2) (by omega)).trans v0, (h.cellAt (i * 2 + 1) (by omega)).trans v1⟩
theorem folE_few {rf : Nat → Tx → Nat → List Tx → Bool × Nat × List Tx} (h : ∀ n pre left ws, (rf n pre left ws).2.2.length + (rf n pre left ws).2.1 ≤ ws.length + left) (pre : Tx) : ∀ (es : List PE) (left : Nat) (ws : List Tx), (folE rf pre es left ws).2.2.length + (folE rf pre es left ws).2.1 ≤ ws.length + left
  | [], left, ws => Nat.le_refl _
  | e :: es, left, ws => by
    unfold folE
    split
    · split
      · exact Nat.le_trans (folE_few h pre es _ _) (h _ _ _ _)
      · exact h _ _ _ _
    · exact Nat.le_refl _
theorem folF_few (L : List PN) : ∀ (f n : Nat) (pre : Tx) (left : Nat) (ws : List Tx), (folF L f n pre left ws).2.2.length + (folF L f n pre left ws).2.1 ≤ ws.length + left
  | 0, n, pre, left, ws => Nat.le_refl _
  | f + 1, n, pre, left, ws => by
    unfold folF
    split
    · exact Nat.le_refl _
    · rename_i h
      refine Nat.le_trans (folE_few (folF_few L f) pre _ _ _) ?_
      split
      · rw [List.length_append, List.length_singleton]; omega
      · omega
theorem labT_size (x : Nat) : (labT x).size ≤ 4 := by
  unfold labT textZ
  split
  · have := encB_size [runeL x]
    simpa using this
  · exact Nat.zero_le _
/-- what follow does: the answer, and the lister behind it -/
def LisP (l : Nat) (NL : List PM) (na : Option Addr) (nc : Nat) (w : World) (r : Bool × Nat × List Tx) (e : Ending) (w' : World) : Prop := e = .returned (.bool r.1) ∧ (∃ wa wc, FL9 l NL na nc r.2.1 r.2.2 wa wc w') ∧ Below l w w'
def LisAny (l : Nat) (NL : List PM) (na : Option Addr) (nc f : Nat) : Prop := ∀ (n : Nat) (pre : Tx) (left : Nat) (ws : List Tx) (wa : Option Addr) (wc : Nat) (w : World), FL9 l NL na nc left ws wa wc w → left ≤ f → left ≤ 1000 → ws.length + left ≤ 1000 → pre.size + 4 * left ≤ 10000 → n ≤ 1000000 →
    Calls Tryz.prog 198 #[.pointer (some ⟨l, 0, none⟩), .int .i64 (n : Int), .string pre] w (LisP l NL na nc w (folF (NL.map pmP) (f + 1) n pre left ws))
end Go.Proofs.YtgnaiahnednllaaGreat
namespace Go.Proofs.YtgnaiahnednllaaGreat
open Go.RowKit
set_option linter.unusedVariables false
set_option maxRecDepth 20000
theorem folF_go (L : List PN) (f n : Nat) (pre : Tx) (left : Nat) (ws : List Tx) (h : ¬ (L.length ≤ n ∨ left = 0)) : folF L (f + 1) n pre left ws = folE (folF L f) pre (L.getD n ⟨false, []⟩).es (left - 1) (if (L.getD n ⟨false, []⟩).fin then ws ++ [pre] else ws) := by
  conv => lhs; unfold folF
  rw [if_neg h]
theorem FL9.kept {l : Nat} {NL : List PM} {na : Option Addr} {nc left : Nat} {ws : List Tx} {wa : Option Addr} {wc : Nat} {w w8 : World} {ob : Obj} (h : FL9 l NL na nc left ws wa wc w) (hg : (w.alloc ob).grownBy w8 (Value.slice wa ws.length wc).ownBlock) : w8.cell? ⟨l, 2, none⟩ = some (.slice wa ws.length wc) ∧ w8.frozen? ⟨l, 2, none⟩ = false := by
  have ll := lt_of_cell h.c0
  have hz : (w.alloc ob).heap.size = w.heap.size + 1 := by simp
  have ne : some l ≠ (Value.slice wa ws.length wc).ownBlock := fun e => by have := (h.o.lt l e.symm).1; omega
  exact ⟨(hg.cell_far ⟨l, 2, none⟩ (by rw [hz]; exact Nat.lt_succ_of_lt ll) ne).trans ((cell_alloc_old ll).trans h.c2), (hg.frozen_far ⟨l, 2, none⟩ (by rw [hz]; exact Nat.lt_succ_of_lt ll) ne).trans (((below_one w ob).frozen (p := ⟨l, 2, none⟩) ll).trans (h.f 2))⟩
theorem holdsI_lit1G9 (w : World) (x : Int) (e : TypeId) (fr : Nat × Nat) : HoldsI .i32 (w.alloc (.cells #[.int .i32 x] e fr)) (some ⟨w.heap.size, 0, none⟩) 1 [x] := by
  refine ⟨rfl, fun _ => ⟨w.heap.size, 0, rfl, fun i hi => ?_⟩⟩
  obtain rfl : i = 0 := by omega
  rw [World.cell?_alloc_mark]; rfl
def GoodPM (NL : List PM) : Prop := ∀ x ∈ NL, ∀ e ∈ x.es, e.1 < 4294967296 ∧ e.2 < 65536 
set_option maxHeartbeats 6400000 in
set_option maxRecDepth 100000 in
theorem fol_step (l : Nat) (NL : List PM) (na : Option Addr) (nc f : Nat) (hG : GoodPM NL) (hlen : NL.length ≤ 70000) (hes : ∀ x ∈ NL, x.es.length ≤ 70000) (IH : ∀ f', f = f' + 1 → LisAny l NL na nc f') : LisAny l NL na nc f := by
  intro n pre left ws wa wc w h hlf hl1000 hws hpre hn
  obtain ⟨i0, hi, hz0, hz1, hz2⟩ := info_parts strL_info
  have H := Lib.hid h
  have IHH := Lib.hid IH
  have HG := Lib.hid hG
  have ll := lt_of_cell h.c0
  have c0 := h.c0
  have c1 := h.c1
  have f1 := h.f 1
  obtain ⟨N, hN⟩ : ∃ N, NL.length = N := ⟨_, rfl⟩
  have HN := Lib.hid hN
  rw [hN] at c0 hlen
  have REF := Lib.hid (show (N ≤ n ∨ left = 0) → folF (NL.map pmP) (f + 1) n pre left ws = (false, left, ws) from fun h => by
    unfold folF
    rw [if_pos (by rw [List.length_map, HN.out]; exact h)])
  have BF := Lib.hid (Below.refl l w)
  clear h hN IH
  by_cases hge : N ≤ n
  · have d1 : decide ((n : Int) ≥ (N : Int)) = true := decide_eq_true (by omega)
    have d2 : decide (N ≤ n) = true := decide_eq_true hge
    rw [REF.out (Or.inl hge)]
    clear hge
    go_enter Tryz.func198, Tryz.ntmps198
    go_wp2_with fail
    go_ret
    exact ⟨rfl, ⟨wa, wc, H.out⟩, BF.out⟩
  have d1 : decide ((n : Int) ≥ (N : Int)) = false := decide_eq_false (by omega)
  have d2 : decide (N ≤ n) = false := decide_eq_false hge
  by_cases h0 : left = 0
  · rw [REF.out (Or.inr h0)]
    have e1 : ((left : Int) == 0) = true := by simp [h0]
    have HL0 := Lib.hid h0
    clear h0
    go_enter Tryz.func198, Tryz.ntmps198
    go_wp2_with fail
    go_ret
    exact ⟨rfl, ⟨wa, wc, H.out⟩, BF.out⟩
  have e1 : ((left : Int) == 0) = false := by rw [beq_eq_false_iff_ne]; omega
  obtain ⟨k, hk⟩ : ∃ k, left - 1 = k := ⟨_, rfl⟩
  have e2 : (left : Int) - 1 = (k : Int) := by omega
  obtain ⟨f', hf'⟩ : ∃ f', f = f' + 1 := ⟨f - 1, by omega⟩
  have IF := Lib.hid (IHH.out f' hf')
  obtain ⟨x, hx⟩ : ∃ x, NL.getD n pm0 = x := ⟨_, rfl⟩
  have HX := Lib.hid hx
  have hmem : x ∈ NL := by
    have := HN.out
    rw [← hx, List.getD_eq_getElem?_getD, List.getElem?_eq_getElem (show n < NL.length by omega)]
    exact List.getElem_mem _
  have GX := Lib.hid (HG.out x hmem)
  have hml := hes x hmem
  obtain ⟨R, hR⟩ : ∃ R, folF (NL.map pmP) (f + 1) n pre left ws = R := ⟨_, rfl⟩
  have HR := Lib.hid (show folE (folF (NL.map pmP) (f' + 1)) pre x.es k (if x.fin then ws ++ [pre] else ws) = R from by
    have h2 : (NL.map pmP).getD n ⟨false, []⟩ = pmP x := by
      rw [← hx, List.getD_eq_getElem?_getD, List.getD_eq_getElem?_getD, List.getElem?_map, List.getElem?_eq_getElem (show n < NL.length by rw [HN.out]; omega)]; rfl
    rw [← hR, hf', folF_go _ _ _ _ _ _ (by rw [List.length_map, HN.out]; omega), h2, hk]; rfl)
  rw [hR]
  have L1 := Lib.hid (show FL9 l NL na nc k ws wa wc (w.setCell ⟨l, 1, none⟩ (.int .i64 (k : Int))) from H.out.less)
  obtain ⟨q, hq, y0, y1⟩ := L1.out.at (show n < NL.length by rw [HN.out]; omega)
  subst hq
  rw [hx] at y0 y1
  obtain ⟨fin, hfin⟩ : ∃ b, x.fin = b := ⟨_, rfl⟩
  obtain ⟨m, hm⟩ : ∃ m, x.es.length = m := ⟨_, rfl⟩
  obtain ⟨ea, hea⟩ : ∃ v, x.ea = v := ⟨_, rfl⟩
  have HEA := Lib.hid hea
  rw [hfin] at y0 HR
  rw [hm, hea] at y1
  rw [hm] at hml
  have HM := Lib.hid hm
  have BW := Lib.hid (show Below l w (w.setCell ⟨l, 1, none⟩ (.int .i64 (k : Int))) from (Below.refl l w).setCell (p := ⟨l, 1, none⟩) (Nat.le_refl l) _)
  have HMEM := Lib.hid hmem
  have c0' := L1.out.c0
  rw [HN.out] at c0'
  have c2' := L1.out.c2
  have HFK := Lib.hid hf'
  have HK := Lib.hid hk
  have hnN : n < N := by omega
  have n1 : (0 : Int) ≤ (n : Int) := by omega
  have n2 : (n : Int) < (N : Int) := by omega
  clear REF IHH hf' hk hx hmem hR hm hfin hge h0 hea
  go_enter Tryz.func198, Tryz.ntmps198
  go_upto_region 4 with fail
  generalize w.setCell ⟨l, 1, none⟩ (.int .i64 (k : Int)) = w1 at *
  go_upto_if 39 with fail
  cases fin
  case' true =>
    go_upto_region 6 with (at_builtin; refine wpList_append_lies _ rfl (.tmp 44) (.tmp 46) 22 rfl (l + 1) 9 i0 _ 1 16 Tryz.underlying22 hi hz0 hz1 hz2 rfl (by omega) (.slice wa ws.length wc) ws.length (strsV ws) (by rfl) (L1.out.o.alloc _) ⟨w1.heap.size, 0, none⟩ 1 1 [.string pre] (by rfl) (by rfl) (World.news_of_block (cs := #[.string pre]) (t := 9) (fr := (0, 0)) (heap_alloc_new w1 _)) (by simp [Value.oneCell']) (by omega) (by unfold maxLen; omega) (by omega) (by have := lt_of_cell L1.out.c0; simp; omega) (w1.heap.size + 1) (by simp) ?_; intro g8 c8 w8 hown8 hgrow8 hat8 hlt8; obtain ⟨z0, z1⟩ := L1.out.kept hgrow8)
    have W8 := L1.out.word hown8 hgrow8 (hat8.imp id (fun e => by rw [e]; simp))
    obtain ⟨w2, hw2⟩ : ∃ v, w8.setCell ⟨l, 2, none⟩ (.slice (some ⟨g8, 0, none⟩) (ws.length + 1) c8) = v := ⟨_, rfl⟩
    rw [hw2] at W8 ⊢
    obtain ⟨ws1, hws1⟩ : ∃ v, ws ++ [pre] = v := ⟨_, rfl⟩
    obtain ⟨wa1, hwa1⟩ : ∃ v : Option Addr, some (⟨g8, 0, none⟩ : Addr) = v := ⟨_, rfl⟩
    obtain ⟨wc1, hwc1⟩ : ∃ v, c8 = v := ⟨_, rfl⟩
    have L2 := Lib.hid (show FL9 l NL (some ⟨q, 0, none⟩) nc k ws1 wa1 wc1 w2 from by rw [← hws1, ← hwa1, ← hwc1]; exact W8.1)
    have B2 := Lib.hid (show Below l w w2 from BW.out.trans W8.2)
    have HR2 := Lib.hid (show folE (folF (NL.map pmP) (f' + 1)) pre x.es k ws1 = R from by rw [← hws1, ← HR.out]; rfl)
    have hwl : ws1.length + k ≤ 1000 := by rw [← hws1, List.length_append, List.length_singleton]; omega
    clear hown8 hgrow8 hat8 hlt8 z0 z1 W8 hw2 hws1 hwa1 hwc1
  case' false =>
    go_upto_region 6 with fail
    obtain ⟨w2, hw2⟩ : ∃ v, w1 = v := ⟨_, rfl⟩
    obtain ⟨ws1, hws1⟩ : ∃ v, ws = v := ⟨_, rfl⟩
    obtain ⟨wa1, hwa1⟩ : ∃ v, wa = v := ⟨_, rfl⟩
    obtain ⟨wc1, hwc1⟩ : ∃ v, wc = v := ⟨_, rfl⟩
    have L2 := Lib.hid (show FL9 l NL (some ⟨q, 0, none⟩) nc k ws1 wa1 wc1 w2 from by rw [← hws1, ← hwa1, ← hwc1, ← hw2]; exact L1.out)
    have B2 := Lib.hid (show Below l w w2 from by rw [← hw2]; exact BW.out)
    have HR2 := Lib.hid (show folE (folF (NL.map pmP) (f' + 1)) pre x.es k ws1 = R from by rw [← hws1, ← HR.out]; rfl)
    have hwl : ws1.length + k ≤ 1000 := by rw [← hws1]; omega
    rw [hw2]
    clear hw2 hws1 hwa1 hwc1
  all_goals
    clear L1 BW HR y0 y1 c0' c2' c0 c1 f1 ll H
    obtain ⟨qn, hq2, -, u1⟩ := L2.out.at (show n < NL.length by rw [HN.out]; exact hnN)
    injection hq2 with hq2
    injection hq2 with hq2
    subst hq2
    rw [HX.out, HM.out, HEA.out] at u1
    have u0 := L2.out.c0
    rw [HN.out] at u0
    go_wp2_with fail
    go_loopw [59] (fun iv wr => ∃ (j left2 : Nat) (ws2 : List Tx) (wa2 : Option Addr) (wc2 : Nat), j ≤ m ∧ iv = .int .i64 j ∧ left2 ≤ k ∧ ws2.length + left2 ≤ 1000 ∧ Hid (folE (folF (NL.map pmP) (f' + 1)) pre (x.es.drop j) left2 ws2 = R) ∧ Hid (FL9 l NL (some ⟨q, 0, none⟩) nc left2 ws2 wa2 wc2 wr) ∧ Hid (Below l w wr)) (fun iv _ => m - (intOf iv).toNat)
    case atStart => exact ⟨0, k, ws1, wa1, wc1, by omega, rfl, by omega, hwl, Lib.hid (by rw [List.drop_zero]; exact HR2.out), L2, B2⟩
    case round =>
      clear L2 B2 HR2 u0 u1
      obtain ⟨j, left2, ws2, wa2, wc2, hj, rfl, hl2, hw2, hE, hL, hB⟩ := hrel
      by_cases hlt : j < m
      · obtain ⟨q2, hq2, v0, v1⟩ := pe_at (hL.out.p.e x HMEM.out) (i := j) (by rw [HM.out]; exact hlt)
        rw [HEA.out] at hq2
        subst hq2
        obtain ⟨⟨y1, y2⟩, hy⟩ : ∃ y, x.es.getD j (0, 0) = y := ⟨_, rfl⟩
        rw [hy] at v0 v1
        simp only at v0 v1
        have DJ := Lib.hid (show x.es.drop j = (y1, y2) :: x.es.drop (j + 1) from by
          rw [List.drop_eq_getElem_cons (show j < x.es.length by rw [HM.out]; exact hlt), ← hy, List.getD_eq_getElem?_getD, List.getElem?_eq_getElem (show j < x.es.length by rw [HM.out]; exact hlt)]; rfl)
        have hy12 := GX.out (y1, y2) (by
          have hjx : j < x.es.length := by rw [HM.out]; exact hlt
          rw [← hy, List.getD_eq_getElem?_getD, List.getElem?_eq_getElem hjx]; exact List.getElem_mem _)
        simp only at hy12
        obtain ⟨yb1, yb2⟩ := hy12
        have n3 : (0 : Int) ≤ (j : Int) := by omega
        have n4 : (j : Int) < (m : Int) := by omega
        obtain ⟨ρ, hρ⟩ : ∃ r, wrap32 (y1 : Int) = r := ⟨_, rfl⟩
        have HRO := Lib.hid (show runeL y1 = ρ from by unfold runeL; rw [IntWalk.i32_left]; exact hρ)
        clear hy
        have hρb : -2147483648 ≤ ρ ∧ ρ ≤ 2147483647 := by
          rw [← hρ]
          unfold wrap32
          omega
        obtain ⟨S, hS⟩ : ∃ S, textZ [ρ] = S := ⟨_, rfl⟩
        have HLT := Lib.hid (show labT y1 = S from by unfold labT; rw [HRO.out, hS])
        have hSz : S.size ≤ 4 := by rw [← HLT.out]; exact labT_size y1
        have CT := Lib.hid (text_any (some ⟨(wr.alloc (.cells #[.int .i64 (y1 : Int), .int .i64 (y2 : Int)] 314)).heap.size, 0, none⟩) 1 1 [ρ] ((wr.alloc (.cells #[.int .i64 (y1 : Int), .int .i64 (y2 : Int)] 314)).alloc (.cells #[.int .i32 ρ] 21)) (holdsI_lit1G9 _ ρ 21 (0, 0)) (by decide) (by
          intro z hz
          simp only [List.mem_singleton] at hz
          rw [hz]; exact hρb))
        have L10 := Lib.hid ((hL.out.below (below_one wr (.cells #[.int .i64 (y1 : Int), .int .i64 (y2 : Int)] 314))).below (below_one _ (.cells #[.int .i32 ρ] 21)))
        have B10 := Lib.hid (show Below l w ((wr.alloc (.cells #[.int .i64 (y1 : Int), .int .i64 (y2 : Int)] 314)).alloc (.cells #[.int .i32 ρ] 21)) from (hB.out.alloc (Nat.le_of_lt (Nat.lt_of_lt_of_le (lt_of_cell hL.out.c0) (Nat.le_refl _))) _).alloc (Nat.le_of_lt (Nat.lt_of_lt_of_le (lt_of_cell hL.out.c0) (below_one wr _).size)) _)
        rw [hS] at CT
        rw [show (wr.alloc (.cells #[.int .i64 (y1 : Int), .int .i64 (y2 : Int)] 314)).heap.size = wr.heap.size + 1 by simp] at CT
        clear hL hB hS hρb
        by_cases hg : allG [ρ]
        · rw [decide_eq_true hg] at CT
          obtain ⟨R', hR'⟩ : ∃ r, folF (NL.map pmP) (f' + 1) y2 (pre ++ S) left2 ws2 = r := ⟨_, rfl⟩
          have NX := Lib.hid (show (if R'.1 then folE (folF (NL.map pmP) (f' + 1)) pre (x.es.drop (j + 1)) R'.2.1 R'.2.2 else (false, R'.2)) = R from by
            rw [← hE.out, DJ.out, ← hR']
            simp only [folE, HRO.out, HLT.out, if_pos hg])
          have hleft : R'.2.1 ≤ left2 := by rw [← hR']; exact folF_left _ _ _ _ _ _
          have hfew : R'.2.2.length + R'.2.1 ≤ ws2.length + left2 := by rw [← hR']; exact folF_few _ _ _ _ _ _
          obtain ⟨ok, lf, wz⟩ := R'
          simp only at hleft hfew
          clear hg
          subst hρ
          go_wp2_with fail
          with_reducible refine CT.out.mono ?_
          rintro e w11 ⟨rfl, hb11⟩
          have L11 := Lib.hid (L10.out.below hb11)
          have B11 := Lib.hid (B10.out.trans (hb11.mono (Nat.le_trans (Nat.le_of_lt (lt_of_cell L10.out.c0)) (Nat.le_refl _))))
          have CI := Lib.hid (IF.out y2 (pre ++ S) left2 ws2 wa2 wc2 w11 L11.out (by have := HFK.out; have := HK.out; omega) (by omega) (by omega) (by rw [ByteArray.size_append]; have := HK.out; omega) (by omega))
          rw [hR'] at CI
          have y4 := (hb11.cell (p := ⟨wr.heap.size, 1, none⟩) (by simp; omega)).trans ((cell_alloc_old (by simp)).trans (by rw [World.cell?_alloc_mark]; rfl : (wr.alloc (.cells #[.int .i64 (y1 : Int), .int .i64 (y2 : Int)] 314)).cell? ⟨wr.heap.size, 1, none⟩ = some (.int .i64 (y2 : Int))))
          clear hb11 CT L10 B10 hR'
          go_wp2_with fail
          with_reducible refine CI.out.mono ?_
          rintro e w12 ⟨rfl, ⟨wa3, wc3, L12⟩, b12⟩
          have H12 := Lib.hid L12
          have B12 := Lib.hid (B11.out.trans b12)
          clear L12 b12 CI y4
          cases ok with
          | true =>
            have NX2 := Lib.hid (show folE (folF (NL.map pmP) (f' + 1)) pre (x.es.drop (j + 1)) lf wz = R from NX.out)
            go_wp2_with fail
            go_roundw
            case rel => exact ⟨j + 1, lf, wz, wa3, wc3, by omega, by go_num, by omega, by omega, NX2, H12, B12⟩
            case measure => simp [intOf] <;> omega
          | false =>
            have NX2 := Lib.hid (show (false, lf, wz) = R from NX.out)
            go_wp2_with fail
            go_ret
            rw [← NX2.out]
            exact ⟨rfl, ⟨wa3, wc3, H12.out⟩, B12.out⟩
        · rw [decide_eq_false hg] at CT
          have NX := Lib.hid (show (false, left2, ws2) = R from by
            rw [← hE.out, DJ.out]
            simp only [folE, HRO.out, if_neg hg])
          clear hg
          subst hρ
          go_wp2_with fail
          with_reducible refine CT.out.mono ?_
          rintro e w11 ⟨rfl, hb11⟩
          have L11 := Lib.hid (L10.out.below hb11)
          have B11 := Lib.hid (B10.out.trans (hb11.mono (Nat.le_trans (Nat.le_of_lt (lt_of_cell L10.out.c0)) (Nat.le_refl _))))
          clear hb11 CT L10 B10
          go_wp2_with fail
          go_ret
          rw [← NX.out]
          exact ⟨rfl, ⟨wa2, wc2, L11.out⟩, B11.out⟩
      · obtain rfl : j = m := by omega
        have ED := Lib.hid (show (true, left2, ws2) = R from by
          rw [← hE.out, show x.es.drop j = [] from List.drop_of_length_le (by rw [HM.out]; exact Nat.le_refl _)]; rfl)
        go_wp2_with fail
        go_ret
        rw [← ED.out]
        exact ⟨rfl, ⟨wa2, wc2, hL.out⟩, hB.out⟩
end Go.Proofs.YtgnaiahnednllaaGreat
namespace Go.Proofs.YtgnaiahnednllaaGreat
open Go.RowKit
set_option linter.unusedVariables false
set_option maxRecDepth 20000
def gB : Tx := ⟨#[98]⟩
/-- a graph in a world that has grown, its blocks the call's own -/
structure CtxG (w0 w : World) (g : Nat) (st : List GN) (S : Nat → Prop) : Prop where
  G : GAt g st w S
  s : ∀ k, S k → w0.heap.size ≤ k
  b : Below w0.heap.size w0 w
theorem CtxG.more {w0 w w' : World} {g : Nat} {st : List GN} {S : Nat → Prop} (c : CtxG w0 w g st S) (hb : Below w.heap.size w w') : CtxG w0 w' g st S :=
  ⟨(gAt_ok g st).below c.G hb, c.s, c.b.trans (hb.mono c.b.size)⟩
theorem build_c {w0 : World} (a : Option Addr) (n cap : Nat) (ts : List Tx) (st : List GN) (w : World) (hw : Below w0.heap.size w0 w) (hh : HoldsT w a n ts) (hc : n ≤ cap) (hn : n ≤ 9223372036854775807) (hs : ∀ t ∈ ts, t.size ≤ 100) (hv : goodV ts = 0) (hst : grS ts = st) :
    Calls Tryz.prog 142 #[.slice a n cap] w fun e w' => ∃ g S, e = .returned (.tuple #[.pointer (some ⟨g, 0, none⟩), .int .i64 0]) ∧ CtxG w0 w' g st S ∧ Below w.heap.size w w' := by
  subst hst
  exact (build_good a n cap ts w hh hc hn hs hv).mono fun e w' ⟨g, S, e1, h1, h2, h3⟩ => ⟨g, S, e1, ⟨h1, fun k hk => Nat.le_trans hw.size (h2 k hk), hw.trans (h3.mono hw.size)⟩, h3⟩
end Go.Proofs.YtgnaiahnednllaaGreat
namespace Go.Proofs.YtgnaiahnednllaaGreat
open Go.RowKit
set_option linter.unusedVariables false
set_option maxRecDepth 20000
def restsG (st : List GN) : List (List Tx) := st.map GN.rests
/-- the edges of the texts' first runes, each to a node of what is behind it -/
def EdOk (R : List (List Tx)) : List Tx → List EdP → Prop
  | l, [] => l = []
  | l, e :: es => l ≠ [] ∧ e.r = ((folS l).1 : Int) ∧ (∃ k : Nat, e.dst = (k : Int) ∧ R[k]? = some (folS l).2) ∧ EdOk R (l.drop (folS l).2.length) es
theorem EdOk.app {R T : List (List Tx)} : ∀ {es : List EdP} {l : List Tx}, EdOk R l es → EdOk (R ++ T) l es
  | [], l, h => h
  | e :: es, l, h => by
    obtain ⟨h1, h2, ⟨k, h3, h4⟩, h5⟩ := h
    have hk := (List.getElem?_eq_some_iff.1 h4).1
    exact ⟨h1, h2, ⟨k, h3, by rw [List.getElem?_append_left hk]; exact h4⟩, h5.app⟩
theorem OkL.mono {f g : Nat} {l : List Tx} (h : OkL f l) (hg : f ≤ g) : OkL g l := ⟨h.ord, h.lo, fun t ht => by have := h.hi t ht; omega, h.n, h.sz⟩
structure NOk (R : List (List Tx)) (g : GN) : Prop where
  fin : g.final = finS g.rests
  ed : EdOk R (bodS g.rests) g.edges
  ok : OkL 12 g.rests
theorem NOk.app {R T : List (List Tx)} {g : GN} (h : NOk R g) : NOk (R ++ T) g := ⟨h.fin, h.ed.app, h.ok⟩
theorem restsG_app (a b : List GN) : restsG (a ++ b) = restsG a ++ restsG b := by simp [restsG]
theorem find_none {st : List GN} {s : List Tx} (h : findG st s = none) : s ∉ restsG st := by
  unfold findG at h
  rw [List.findIdx?_eq_none_iff] at h
  intro hm
  obtain ⟨g, hg, e⟩ := List.mem_map.1 hm
  have := h g hg
  simp [e] at this
theorem find_some {st : List GN} {s : List Tx} {i : Nat} (h : findG st s = some i) : (restsG st)[i]? = some s := by
  unfold findG at h
  obtain ⟨h1, h2, -⟩ := List.findIdx?_eq_some_iff_getElem.1 h
  have e : st[i].rests = s := of_decide_eq_true h2
  rw [restsG, List.getElem?_map, List.getElem?_eq_getElem h1, Option.map_some, e]
theorem reach_found {f : Nat} {st : List GN} {s : List Tx} {i : Nat} (h : findG st s = some i) : reachF (f + 1) st s = (i, st) := by unfold reachF; rw [h]
theorem set_mid {α : Type} (a b : List α) (x y : α) : ((a ++ [x]) ++ b).set a.length y = a ++ (y :: b) := by
  rw [List.append_assoc, List.set_append_right _ _ (Nat.le_refl _), Nat.sub_self]; rfl
theorem reach_new {f : Nat} {st t : List GN} {s : List Tx} {es : List EdP} (h : findG st s = none) (hk : edgesF (reachF f) (bodS s).length (bodS s) [] (st ++ [⟨s, false, []⟩]) = (es, (st ++ [⟨s, false, []⟩]) ++ t)) :
    reachF (f + 1) st s = (st.length, st ++ (⟨s, finS s, es⟩ :: t)) := by
  unfold reachF
  rw [h, hk]
  simp only [set_mid]
structure ROk (st t : List GN) (s : List Tx) (i : Nat) : Prop where
  at_ : (restsG (st ++ t))[i]? = some s
  nodes : ∀ g ∈ t, NOk (restsG (st ++ t)) g
  nodup : (restsG st).Nodup → (restsG (st ++ t)).Nodup
  some_ : s ≠ [] → ∀ g ∈ t, g.rests ≠ []
theorem rok_new {f : Nat} {st t : List GN} {s : List Tx} {es : List EdP} (hs : OkL 12 s) (h : findG st s = none) (he : EdOk (restsG ((st ++ [⟨s, false, []⟩]) ++ t)) (bodS s) es) (hn : ∀ g ∈ t, NOk (restsG ((st ++ [⟨s, false, []⟩]) ++ t)) g) (hd : (restsG (st ++ [⟨s, false, []⟩])).Nodup → (restsG ((st ++ [⟨s, false, []⟩]) ++ t)).Nodup) (hm : s ≠ [] → ∀ g ∈ t, g.rests ≠ []) :
    ROk st (⟨s, finS s, es⟩ :: t) s st.length := by
  have e : restsG (st ++ (⟨s, finS s, es⟩ :: t)) = restsG ((st ++ [⟨s, false, []⟩]) ++ t) := by simp [restsG]
  have hl : (restsG st).length = st.length := by simp [restsG]
  refine ⟨?_, fun g hg => ?_, fun hnd => ?_, fun h0 g hg => ?_⟩
  · rw [restsG_app, List.getElem?_append_right (by omega), hl, Nat.sub_self]; rfl
  · rw [e]
    rcases List.mem_cons.1 hg with rfl | hg
    · exact ⟨rfl, he, hs⟩
    · exact hn g hg
  · rw [e]
    refine hd ?_
    rw [restsG_app]
    refine List.nodup_append.2 ⟨hnd, by simp [restsG], fun a ha b hb => ?_⟩
    simp only [restsG, List.map_cons, List.map_nil, List.mem_singleton] at hb
    subst hb
    exact fun e2 => find_none h (e2 ▸ ha)
  · rcases List.mem_cons.1 hg with rfl | hg
    · exact h0
    · exact hm h0 g hg
theorem bod_none {s : List Tx} (h : OkL 0 s) : bodS s = [] := by
  cases hbs : bodS s with
  | nil => rfl
  | cons t l =>
    have hm : t ∈ bodS s := by rw [hbs]; simp
    have h1 := bod_pos h.ord t hm
    have h2 := rst_len (h.bod.lo t hm) h1
    have h3 := h.bod.hi t hm
    omega
theorem reach_ok (f : Nat) (hf : f ≤ 12) : ∀ (st : List GN) (s : List Tx), OkL f s → ∃ t i, reachF (f + 1) st s = (i, st ++ t) ∧ ROk st t s i := by
  induction f with
  | zero =>
    intro st s h
    cases hfd : findG st s with
    | some i => exact ⟨[], i, by rw [reach_found hfd, List.append_nil], ⟨by rw [List.append_nil]; exact find_some hfd, fun g hg => by simp at hg, fun h => by rwa [List.append_nil], fun _ g hg => by simp at hg⟩⟩
    | none =>
      have hb := bod_none h
      refine ⟨[⟨s, finS s, []⟩], st.length, reach_new (t := []) hfd (by rw [hb, List.append_nil]; rfl), rok_new (f := 0) (t := []) (h.mono hf) hfd (by rw [hb]; rfl) (fun g hg => by simp at hg) (fun h => by rwa [List.append_nil]) (fun _ g hg => by simp at hg)⟩
  | succ f ih =>
    intro st s h
    cases hfd : findG st s with
    | some i => exact ⟨[], i, by rw [reach_found hfd, List.append_nil], ⟨by rw [List.append_nil]; exact find_some hfd, fun g hg => by simp at hg, fun h => by rwa [List.append_nil], fun _ g hg => by simp at hg⟩⟩
    | none =>
      have key : ∀ (n : Nat) (l : List Tx) (es : List EdP) (st1 : List GN), l.length ≤ n → OkL (f + 1) l → (∀ t ∈ l, 0 < t.size) → ∃ t es', edgesF (reachF (f + 1)) n l es st1 = (es ++ es', st1 ++ t) ∧ EdOk (restsG (st1 ++ t)) l es' ∧ (∀ g ∈ t, NOk (restsG (st1 ++ t)) g) ∧ ((restsG st1).Nodup → (restsG (st1 ++ t)).Nodup) ∧ ∀ g ∈ t, g.rests ≠ [] := by
        intro n
        induction n with
        | zero =>
          intro l es st1 hn _ _
          obtain rfl : l = [] := List.eq_nil_of_length_eq_zero (by omega)
          exact ⟨[], [], by simp [edgesF], rfl, fun g hg => by simp at hg, fun h => by rwa [List.append_nil], fun g hg => by simp at hg⟩
        | succ n ihn =>
          intro l es st1 hn hl hp
          by_cases h0 : l = []
          · subst h0
            exact ⟨[], [], by simp [edgesF], rfl, fun g hg => by simp at hg, fun h => by rwa [List.append_nil], fun g hg => by simp at hg⟩
          · obtain ⟨hfl, hfl2⟩ := fol_len l h0
            obtain ⟨t1, i, e1, r1⟩ := ih (by omega) st1 (folS l).2 (hl.fol hp)
            obtain ⟨t2, es2, e2, d1, d2, d3, d4⟩ := ihn (l.drop (folS l).2.length) (es ++ [⟨((folS l).1 : Int), (i : Int)⟩]) (st1 ++ t1) (by rw [List.length_drop]; omega) (hl.drop _) (fun t ht => hp t (List.mem_of_mem_drop ht))
            have hne : (folS l).2 ≠ [] := fun e => by rw [e] at hfl; simp at hfl
            refine ⟨t1 ++ t2, ⟨((folS l).1 : Int), (i : Int)⟩ :: es2, ?_, ?_, fun g hg => ?_, fun hd => ?_, fun g hg => ?_⟩
            · unfold edgesF
              rw [if_neg h0, e1]
              simp only
              rw [e2, List.append_assoc, List.append_assoc]; rfl
            · rw [← List.append_assoc]
              refine ⟨h0, rfl, ⟨i, rfl, ?_⟩, d1⟩
              rw [restsG_app, List.getElem?_append_left (List.getElem?_eq_some_iff.1 r1.at_).1]
              exact r1.at_
            · rw [← List.append_assoc]
              rcases List.mem_append.1 hg with hg | hg
              · rw [restsG_app]; exact (r1.nodes g hg).app
              · exact d2 g hg
            · rw [← List.append_assoc]; exact d3 (r1.nodup hd)
            · rcases List.mem_append.1 hg with hg | hg
              · exact r1.some_ hne g hg
              · exact d4 g hg
      obtain ⟨t, es, k1, k2, k3, k4, k5⟩ := key (bodS s).length (bodS s) [] (st ++ [⟨s, false, []⟩]) (Nat.le_refl _) h.bod (bod_pos h.ord)
      exact ⟨_, _, reach_new hfd k1, rok_new (f := 0) (h.mono hf) hfd k2 k3 k4 (fun _ => k5)⟩
/-- the nodes of the words -/
structure GOk (st : List GN) (ts : List Tx) : Prop where
  root : (restsG st)[0]? = some ts
  nodes : ∀ g ∈ st, NOk (restsG st) g
  nodup : (restsG st).Nodup
  some_ : ts ≠ [] → ∀ g ∈ st, g.rests ≠ []
theorem graph_ok {ts : List Tx} (h : OkL 12 ts) : GOk (reachF 13 [] ts).2 ts := by
  obtain ⟨t, i, e, r⟩ := reach_ok 12 (Nat.le_refl _) [] ts h
  have h0 : (reachF 13 [] ts).1 = 0 := by
    unfold reachF
    have : findG [] ts = none := rfl
    rw [this]; rfl
  rw [e] at h0 ⊢
  simp only [List.nil_append] at *
  subst h0
  exact ⟨by simpa using r.at_, fun g hg => by simpa using r.nodes g hg, by simpa [restsG] using r.nodup (by simp [restsG]), r.some_⟩
end Go.Proofs.YtgnaiahnednllaaGreat
namespace Go.Proofs.YtgnaiahnednllaaGreat
open Go.RowKit
set_option linter.unusedVariables false
set_option maxRecDepth 20000
/-- texts in order, none empty, each well made -/
structure Run (l : List Tx) : Prop where
  ord : SortedS l
  pos : ∀ t ∈ l, 0 < t.size
  lo : ∀ t ∈ l, 0 ≤ lenS t
theorem Run.drop {l : List Tx} (h : Run l) (k : Nat) : Run (l.drop k) :=
  ⟨List.Pairwise.sublist (List.drop_sublist _ _) h.ord, fun t ht => h.pos t (List.mem_of_mem_drop ht), fun t ht => h.lo t (List.mem_of_mem_drop ht)⟩
theorem OkL.run {f : Nat} {l : List Tx} (h : OkL f l) : Run (bodS l) := ⟨h.bod.ord, bod_pos h.ord, h.bod.lo⟩
theorem GOk.node {st : List GN} {ts : List Tx} (G : GOk st ts) {k : Nat} {l : List Tx} (h : (restsG st)[k]? = some l) : k < st.length ∧ (st.getD k gn0).rests = l ∧ NOk (restsG st) (st.getD k gn0) := by
  obtain ⟨h1, h2⟩ := List.getElem?_eq_some_iff.1 h
  have hk : k < st.length := by simpa [restsG] using h1
  have e : st.getD k gn0 = st[k] := by rw [List.getD_eq_getElem?_getD, List.getElem?_eq_getElem hk]; rfl
  refine ⟨hk, ?_, ?_⟩
  · rw [e, ← h2]; simp [restsG]
  · rw [e]; exact G.nodes _ (List.getElem_mem hk)
theorem has_at {st : List GN} {k : Nat} (h : k < st.length) : hasG st (k : Int) = true ∧ edgesG st (k : Int) = (st.getD k gn0).edges ∧ finG st (k : Int) = (st.getD k gn0).final := by
  have h1 : hasG st (k : Int) = true := by unfold hasG; exact decide_eq_true (by omega)
  refine ⟨h1, ?_, ?_⟩
  · unfold edgesG; rw [if_pos h1]; rfl
  · unfold finG; rw [h1]; simp
end Go.Proofs.YtgnaiahnednllaaGreat
namespace Go.Proofs.YtgnaiahnednllaaGreat
open Go.RowKit
set_option linter.unusedVariables false
set_option maxRecDepth 20000
set_option maxHeartbeats 800000 in
theorem runes_good (s : ByteArray) (w : World) (hs : s.size ≤ 1048576) (hg : 0 ≤ lenS s) :
    Calls Tryz.prog 129 #[.string s] w fun e w' => ∃ a c, e = .returned (.tuple #[.slice a (runesS s).length c, .bool true]) ∧ RetR 21 w (intsN (runesS s)) a c w' := by
  obtain ⟨i0, hi, hz0, hz1, hz2⟩ := info_parts i32_info
  obtain ⟨hgood, hlen⟩ := lenS_pos hg
  have hle := runesS_le s
  obtain ⟨n, hn⟩ : ∃ n, (runesS s).length = n := ⟨_, rfl⟩
  rw [hn] at hlen hle ⊢
  have HN := Lib.hid hn; have HLEN := Lib.hid hlen; have HGD := Lib.hid hgood
  clear hn hlen hgood hg
  go_enter Tryz.func129, Tryz.ntmps129
  go_wp2_with fail
  refine (len_any s _ (by omega)).mono ?_
  rintro e w1 ⟨rfl, hb1⟩
  rw [HLEN.out]
  have B1 := Lib.hid hb1
  clear hb1
  go_wp2_with (at_make; refine wpList_make_own _ rfl _ _ 205 rfl w.heap.size 21 i0 (.int .i32 0) 1 Tryz.underlying205 hi hz0 hz1 _ _ _ n rfl rfl (by omega) (by rw [hz2]; omega) (by unfold maxLen; omega) B1.out.size ?_; intro w2 hown2 hgrow2)
  have B2 := Lib.hid (B1.out.trans ((below_grown hgrow2 (by intro k hk; cases hk)).mono B1.out.size))
  have s1 := B1.out.size
  have hlt2 := (hown2.lt w1.heap.size rfl).2
  have O2 := Lib.hid hown2
  clear hown2 hgrow2
  go_loopw [5] (fun v wr => ∃ (pos f : Nat) (P : List Nat), s.size ≤ pos + f ∧ v = .slice (some ⟨w1.heap.size, 0, none⟩) P.length n ∧ Hid (runesS s = P ++ runesN s f pos) ∧
      Hid (wr.ownsRow w.heap.size 21 1 (.slice (some ⟨w1.heap.size, 0, none⟩) P.length n) P.length (runesV (intsN P))) ∧ Hid (wr.heap[w2.heap.size]? = some (.stringIter s pos)) ∧ Hid (Below w.heap.size w wr)) (fun _ wr => s.size - wr.iterPos w2.heap.size)
  case atStart => exact ⟨0, s.size, [], by omega, rfl, Lib.hid rfl, Lib.hid (owns_below O2.out (below_one _ _)), Lib.hid (World.iter_heap w2 s 0), Lib.hid (B2.out.trans ((below_one w2 _).mono B2.out.size))⟩
  case round =>
    obtain ⟨pos, f, P, hf, rfl, hP, hO, hIt, hB⟩ := hrel
    by_cases hlt : pos < s.size
    · have hnx := fun ty => Lib.run_next_any_at (P := Tryz.prog) wr w2.heap.size s pos ty hIt.out hlt
      obtain ⟨g, rfl, hst, hg⟩ := runesN_step s f pos hlt hf
      have hwd := decode_width s pos hlt
      have hPn : P.length + 1 ≤ n := by
        have h1 := congrArg List.length hP.out
        rw [hst, List.length_append, List.length_cons, HN.out] at h1
        omega
      have HST := Lib.hid hst
      obtain ⟨r, hr⟩ : ∃ r, (Utf8.decode s pos).1 = r := ⟨_, rfl⟩
      obtain ⟨wd, hwd2⟩ : ∃ wd, (Utf8.decode s pos).2 = wd := ⟨_, rfl⟩
      rw [hr, hwd2] at hnx HST; rw [hwd2] at hg hwd
      clear hst hr hwd2
      have hOi := owns_iterAt hO.out hIt.out (pos + wd)
      have OI := Lib.hid hOi
      clear hOi
      go_wp2_with (at_builtin; refine wpList_append_fits _ rfl (.tmp 19) (.tmp 21) 205 rfl w.heap.size 21 i0 1 Tryz.underlying205 hi hz1 w1.heap.size P.length n _ rfl (OI.out.alloc _) _ 1 1 _ rfl rfl (one_cells _ _ _ _) (one_int _ _) (by omega) ?_; intro w4 hown4 hgrow4)
      have hIt4 : w4.heap[w2.heap.size]? = some (.stringIter s (pos + wd)) := by
        have hl := (Array.getElem?_eq_some_iff.1 hIt.out).1
        rw [hgrow4.block w2.heap.size (by simp [World.iterAt]; omega) (by intro e; injection e with e; omega)]
        rw [Below.heap_alloc _ _ _ (by simpa [World.iterAt] using hl)]
        exact Lib.iterAt_heap wr _ s pos (pos + wd) hIt.out
      have hb4 : Below w.heap.size w w4 := by
        have h1 := Lib.below_iterAt hB.out (show w.heap.size ≤ w2.heap.size from B2.out.size) s (pos + wd)
        exact (h1.alloc h1.size _).grown hgrow4 (by have := h1.size; simp; omega) (by intro k hk; injection hk with hk; omega)
      go_roundw
      case rel => exact ⟨pos + wd, g, P ++ [r], hg, by rw [List.length_append]; rfl, Lib.hid (by rw [hP.out, HST.out]; simp), Lib.hid (by rw [List.length_append, runesV_snoc]; exact hown4), Lib.hid hIt4, Lib.hid hb4⟩
      case measure =>
        have h1 : w4.iterPos w2.heap.size = pos + wd := by simp [World.iterPos, hIt4]
        have h2 : wr.iterPos w2.heap.size = pos := by simp [World.iterPos, hIt.out]
        rw [h1, h2]; omega
    · have hnx := fun ty => Lib.run_next_end_at (P := Tryz.prog) wr w2.heap.size s pos ty hIt.out hlt
      have he : runesS s = P := by rw [hP.out, runesN_end s f pos hlt, List.append_nil]
      have hpl : P.length = n := by rw [← he]; exact HN.out
      have HE := Lib.hid he; have HPL := Lib.hid hpl
      clear he hpl
      go_wp2
      go_ret2
      have hl2 : (intsN (runesS s)).length = P.length := by rw [HE.out]; simp [intsN]
      refine ⟨some ⟨w1.heap.size, 0, none⟩, n, by rw [HPL.out]; rfl, ?_, hB.out, fun h => by cases h⟩
      rw [hl2, HE.out]; exact hO.out
end Go.Proofs.YtgnaiahnednllaaGreat
namespace Go.Proofs.YtgnaiahnednllaaGreat
open Go.RowKit
set_option linter.unusedVariables false
set_option maxRecDepth 20000
theorem ed_few {R : List (List Tx)} : ∀ (es : List EdP) (l : List Tx), EdOk R l es → es.length ≤ l.length
  | [], l, _ => Nat.zero_le _
  | e :: es, l, h => by
    have h1 := ed_few es _ h.2.2.2
    have h2 := (fol_len l h.1)
    rw [List.length_drop] at h1
    simp only [List.length_cons]; omega
theorem GOk.few {st : List GN} {ts : List Tx} (G : GOk st ts) : ∀ x ∈ st, x.edges.length ≤ 100 := fun x hx => by
  have h := G.nodes x hx
  have h1 := ed_few _ _ h.ed
  have h2 := bod_len x.rests
  have h3 := h.ok.n
  omega
theorem grS_ok {ts : List Tx} (h : goodV ts = 0) (hs : ∀ t ∈ ts, t.size ≤ 100) : GOk (grS ts) ts := graph_ok (ok_good h hs)
end Go.Proofs.YtgnaiahnednllaaGreat
namespace Go.Proofs.YtgnaiahnednllaaGreat
open Go.RowKit
set_option linter.unusedVariables false
set_option maxRecDepth 20000
theorem edB_len (e : EdP) : (edB e).length = 6 := by unfold edB; rw [List.length_append, Cod.bytesOf_length, Cod.bytesOf_length]
theorem eds_len : ∀ es : List EdP, (es.flatMap edB).length = 6 * es.length
  | [] => rfl
  | e :: es => by rw [List.flatMap_cons, List.length_append, edB_len, eds_len es, List.length_cons]; omega
theorem ndB_len (x : GN) : (ndB x).length = 3 + 6 * x.edges.length := by
  unfold ndB; rw [List.length_append, List.length_append, Cod.bytesOf_length, eds_len]; simp; omega
theorem nds_len : ∀ (st : List GN) (_ : ∀ x ∈ st, x.edges.length ≤ 100), (st.flatMap ndB).length ≤ 603 * st.length
  | [], _ => by simp
  | x :: l, h => by
    have h1 := nds_len l (fun y hy => h y (by simp [hy]))
    have h2 := h x (by simp)
    rw [List.flatMap_cons, List.length_append, ndB_len, List.length_cons]; omega
theorem bodyB_len {st : List GN} (h : ∀ x ∈ st, x.edges.length ≤ 100) (hl : st.length ≤ 800) : (bodyB st).length ≤ 524000 := by
  have := nds_len st h
  unfold bodyB
  rw [List.length_append, List.length_append, Cod.bytesOf_length]
  simp only [List.length_cons, List.length_nil]; omega
theorem grS_few {ts : List Tx} (h : goodV ts = 0) (hs : ∀ t ∈ ts, t.size ≤ 100) : (grS ts).length ≤ 721 := by
  have h1 : (grS ts).length ≤ 0 + wtS ts + 1 := (reach_len 12 [] ts (ok_good h hs)).2.1
  have h2 := wt_good ts (ok_good h hs).hi
  have h3 := (goodV_zero h).1
  omega
theorem fol_lab {l : List Tx} (h : l ≠ []) : (folS l).1 ≤ 2147483647 := by
  cases l with
  | nil => exact absurd rfl h
  | cons t l => exact decode_le t 0
theorem ed_runes {R : List (List Tx)} : ∀ (es : List EdP) (l : List Tx), EdOk R l es → ∀ e ∈ es, 0 ≤ e.r ∧ e.r ≤ 2147483647
  | [], _, _ => fun e h => by simp at h
  | e :: es, l, h => fun x hx => by
    rcases List.mem_cons.1 hx with rfl | hx
    · have h1 := fol_lab h.1
      rw [h.2.1]; omega
    · exact ed_runes es _ h.2.2.2 x hx
theorem GOk.runes {st : List GN} {ts : List Tx} (G : GOk st ts) : ∀ x ∈ st, ∀ e ∈ x.edges, 0 ≤ e.r ∧ e.r ≤ 2147483647 := fun x hx => ed_runes _ _ (G.nodes x hx).ed
theorem encode_of (g : Nat) (ts : List Tx) (S : Nat → Prop) (w : World) (h : GAt g (grS ts) w S) (hv : goodV ts = 0) (hs : ∀ t ∈ ts, t.size ≤ 100) :
    Calls Tryz.prog 143 #[.pointer (some ⟨g, 0, none⟩)] w (RetE w (imgB (grS ts))) := by
  have G := grS_ok hv hs
  have hl := grS_few hv hs
  exact encode_any g (grS ts) S w h (fun x hx => by have := G.few x hx; omega) G.runes (bodyB_len G.few (by omega)) (by omega)
theorem pOf_good (a : Option Addr) (n cap : Nat) (ts : List Tx) (w : World) (hh : HoldsT w a n ts) (hc : n ≤ cap) (hn : n ≤ 9223372036854775807) (hs : ∀ t ∈ ts, t.size ≤ 100) (hv : goodV ts = 0) :
    Calls Tryz.prog 138 #[.slice a n cap] w (RetE w (imgB (grS ts))) := by
  have CB := Lib.hid (build_c (w0 := w) a n cap ts (grS ts) w (Below.refl _ _) hh hc hn hs hv rfl)
  have CE := Lib.hid (fun g S (w' : World) (h : GAt g (grS ts) w' S) => encode_of g ts S w' h hv hs)
  obtain ⟨o, ho⟩ : ∃ o, imgB (grS ts) = o := ⟨_, rfl⟩
  rw [ho] at CE ⊢
  clear hh hs hv ho
  go_enter Tryz.func138, Tryz.ntmps138
  go_wp2_with fail
  with_reducible refine CB.out.mono ?_
  rintro e w1 ⟨g, S, rfl, hC, hb⟩
  have C1 := Lib.hid (CE.out g S w1 hC.G)
  have B1 := Lib.hid hb
  clear hC hb CE CB
  go_wp2_with fail
  with_reducible refine C1.out.mono ?_
  rintro e w2 ⟨a2, c2, rfl, h1, h2, h3⟩
  have F := Lib.hid (show RetE w o (.returned (.tuple #[.slice a2 o.length c2, .int .i64 0])) w2 from
    ⟨a2, c2, rfl, base_less9 h1 B1.out.size, B1.out.trans (h2.mono B1.out.size), h3⟩)
  clear h1 h2 h3 C1
  go_wp2_with fail
  go_ret2
  exact F.out
end Go.Proofs.YtgnaiahnednllaaGreat
namespace Go.Proofs.YtgnaiahnednllaaGreat
open Go.RowKit
set_option linter.unusedVariables false
set_option maxRecDepth 20000
def edP (e : EdP) : PE := (bitsV e.r % 4294967296, bitsV e.dst % 65536)
def pnG (x : GN) : PN := ⟨x.final, x.edges.map edP⟩
theorem rd_at {bs rest : List Nat} {at_ v s : Nat} (h0 : 0 < s) (h : bs.drop at_ = Cod.bytesOf v s ++ rest) : okR bs.length at_ s false = true ∧ numR bs bs.length at_ s false = v % 256 ^ s ∧ atR bs.length at_ s false = at_ + s ∧ bs.drop (at_ + s) = rest := by
  have hl := congrArg List.length h
  rw [List.length_drop, List.length_append, Cod.bytesOf_length] at hl
  have ok : okR bs.length at_ s false = true := by
    unfold okR
    rw [decide_eq_true (show at_ + s ≤ bs.length by omega)]; rfl
  refine ⟨ok, ?_, ?_, ?_⟩
  · unfold numR
    rw [if_pos ok]
    unfold numN
    rw [h, List.take_left' (Cod.bytesOf_length _ _), Cod.numOf_bytesOf]
  · unfold atR; rw [if_pos ok]
  · rw [← List.drop_drop, h, List.drop_left' (Cod.bytesOf_length _ _)]
theorem rdE_img {bs : List Nat} : ∀ (es : List EdP) (rest : List Nat) (at_ : Nat), bs.drop at_ = es.flatMap edB ++ rest → rdE bs bs.length es.length at_ false = (es.map edP, at_ + 6 * es.length, false) ∧ bs.drop (at_ + 6 * es.length) = rest
  | [], rest, at_, h => ⟨rfl, by simpa using h⟩
  | e :: es, rest, at_, h => by
    rw [List.flatMap_cons, List.append_assoc, show edB e = Cod.bytesOf (bitsV e.r) 4 ++ Cod.bytesOf (bitsV e.dst) 2 from rfl, List.append_assoc] at h
    obtain ⟨o1, n1, a1, d1⟩ := rd_at (by decide) h
    obtain ⟨o2, n2, a2, d2⟩ := rd_at (by decide) d1
    obtain ⟨ih1, ih2⟩ := rdE_img es rest _ d2
    have el : at_ + 6 * (es.length + 1) = at_ + 4 + 2 + 6 * es.length := by omega
    rw [List.length_cons, el]
    refine ⟨?_, ih2⟩
    simp only [rdE, o1, n1, a1, o2, n2, a2, Bool.not_true, Bool.false_eq_true, if_false, ih1]
    rfl
theorem finN_bytes (x : GN) : [finN x] = Cod.bytesOf (finN x) 1 := by unfold finN; split <;> rfl
theorem rdN_img {bs rest : List Nat} (x : GN) (hx : x.edges.length < 65536) (at_ : Nat) (h : bs.drop at_ = ndB x ++ rest) : rdN bs bs.length at_ false = (pnG x, at_ + (ndB x).length, false) ∧ bs.drop (at_ + (ndB x).length) = rest := by
  have h2 : bs.drop at_ = Cod.bytesOf (finN x) 1 ++ (Cod.bytesOf x.edges.length 2 ++ (x.edges.flatMap edB ++ rest)) := by
    rw [h, ← finN_bytes]; unfold ndB; simp only [List.append_assoc]
  obtain ⟨o1, n1, a1, d1⟩ := rd_at (by decide) h2
  obtain ⟨o2, n2, a2, d2⟩ := rd_at (by decide) d1
  have hm : x.edges.length % 256 ^ 2 = x.edges.length := Nat.mod_eq_of_lt (by omega)
  have hf : decide (finN x % 256 ^ 1 = 1) = x.final := by unfold finN; cases x.final <;> rfl
  obtain ⟨ih1, ih2⟩ := rdE_img x.edges rest _ d2
  have el : at_ + (ndB x).length = at_ + 1 + 2 + 6 * x.edges.length := by rw [ndB_len]; omega
  rw [el]
  refine ⟨?_, ih2⟩
  simp only [rdN, o1, n1, a1, o2, n2, a2, Bool.not_true, hm, hf, ih1]
  rfl
theorem rdL_img {bs : List Nat} : ∀ (st : List GN) (rest : List Nat) (at_ : Nat), (∀ x ∈ st, x.edges.length < 65536) → bs.drop at_ = st.flatMap ndB ++ rest → rdL bs bs.length st.length at_ = some (st.map pnG, at_ + (st.flatMap ndB).length) ∧ bs.drop (at_ + (st.flatMap ndB).length) = rest
  | [], rest, at_, _, h => ⟨rfl, by simpa using h⟩
  | x :: st, rest, at_, hs, h => by
    rw [List.flatMap_cons, List.append_assoc] at h
    obtain ⟨e1, d1⟩ := rdN_img x (hs x (by simp)) at_ h
    obtain ⟨ih1, ih2⟩ := rdL_img st rest _ (fun y hy => hs y (by simp [hy])) d1
    have el : at_ + ((x :: st).flatMap ndB).length = at_ + (ndB x).length + (st.flatMap ndB).length := by rw [List.flatMap_cons, List.length_append]; omega
    rw [el, List.length_cons]
    refine ⟨?_, ih2⟩
    simp only [rdL, e1, ih1, Bool.false_eq_true, if_false, Option.map_some]
    rfl
/-- what begins with a body tells the body's nodes, and how long it is -/
theorem body_tell {st : List GN} {rest : List Nat} (hl : st.length < 65536) (hs : ∀ x ∈ st, x.edges.length < 65536) {d : List Nat} (hd : d = (bodyB st ++ rest).drop 4) : okR d.length 0 2 false = true ∧ rdL d d.length (numR d d.length 0 2 false) 2 = some (st.map pnG, 2 + (st.flatMap ndB).length) ∧ d.drop (2 + (st.flatMap ndB).length) = rest := by
  have e : d.drop 0 = Cod.bytesOf st.length 2 ++ (st.flatMap ndB ++ rest) := by
    rw [hd]; unfold bodyB; simp
  obtain ⟨o1, n1, -, d1⟩ := rd_at (by decide) e
  rw [Nat.mod_eq_of_lt (show st.length < 256 ^ 2 by omega)] at n1
  obtain ⟨h1, h2⟩ := rdL_img st rest _ hs d1
  rw [n1]
  exact ⟨o1, h1, h2⟩
theorem readP_img {st : List GN} (hl : st.length < 65536) (hs : ∀ x ∈ st, x.edges.length < 65536) : readP (bodyB st) = some (st.map pnG) := by
  obtain ⟨d, hd⟩ : ∃ d, (bodyB st).drop 4 = d := ⟨_, rfl⟩
  obtain ⟨h1, h2, h3⟩ := body_tell (rest := []) hl hs (d := d) (by rw [List.append_nil, hd])
  have e1 : (bodyB st).take 4 = [73, 78, 75, 49] := by unfold bodyB; rfl
  have e2 : 2 + (st.flatMap ndB).length = d.length := by
    rw [← hd]; unfold bodyB; simp [Cod.bytesOf_length]
  unfold readP
  rw [if_pos e1, hd]
  simp only [h1, if_true, h2, e2]
end Go.Proofs.YtgnaiahnednllaaGreat
namespace Go.Proofs.YtgnaiahnednllaaGreat
open Go.RowKit
set_option linter.unusedVariables false
set_option maxRecDepth 20000
theorem ue_decodeN_good (n b0 b1 b2 b3 : Nat) (hg : (Lib.decodeN n b0 b1 b2 b3).1 ≠ 65533) (h0 : b0 < 256) :
    ((Lib.decodeN n b0 b1 b2 b3).1 < 55296 ∨ 57343 < (Lib.decodeN n b0 b1 b2 b3).1) ∧ (Lib.decodeN n b0 b1 b2 b3).1 ≤ 1114111 := by
  unfold Lib.decodeN at *
  by_cases k0 : b0 < 128
  · rw [if_pos k0]; exact ⟨Or.inl (show b0 < 55296 by omega), (show b0 ≤ 1114111 by omega)⟩
  rw [if_neg k0] at hg ⊢
  by_cases k1 : b0 / 32 = 6 ∧ 1 < n ∧ b1 / 64 = 2
  · rw [if_pos k1] at hg ⊢
    by_cases h : b0 % 32 * 64 + b1 % 64 ≥ 128
    · rw [if_pos h]; exact ⟨Or.inl (show b0 % 32 * 64 + b1 % 64 < 55296 by omega), (show b0 % 32 * 64 + b1 % 64 ≤ 1114111 by omega)⟩
    · rw [if_neg h] at hg; exact absurd rfl hg
  rw [if_neg k1] at hg ⊢
  by_cases k2 : b0 / 16 = 14 ∧ (1 < n ∧ b1 / 64 = 2) ∧ 2 < n ∧ b2 / 64 = 2
  · rw [if_pos k2] at hg ⊢
    by_cases h : b0 % 16 * 4096 + b1 % 64 * 64 + b2 % 64 ≥ 2048 ∧ (b0 % 16 * 4096 + b1 % 64 * 64 + b2 % 64 < 55296 ∨ (57344 ≤ b0 % 16 * 4096 + b1 % 64 * 64 + b2 % 64 ∧ b0 % 16 * 4096 + b1 % 64 * 64 + b2 % 64 ≤ 1114111))
    · rw [if_pos h]
      refine ⟨?_, show b0 % 16 * 4096 + b1 % 64 * 64 + b2 % 64 ≤ 1114111 by omega⟩
      show b0 % 16 * 4096 + b1 % 64 * 64 + b2 % 64 < 55296 ∨ 57343 < b0 % 16 * 4096 + b1 % 64 * 64 + b2 % 64
      omega
    · rw [if_neg h] at hg; exact absurd rfl hg
  rw [if_neg k2] at hg ⊢
  by_cases k3 : b0 / 8 = 30 ∧ (1 < n ∧ b1 / 64 = 2) ∧ (2 < n ∧ b2 / 64 = 2) ∧ 3 < n ∧ b3 / 64 = 2
  · rw [if_pos k3] at hg ⊢
    by_cases h : b0 % 8 * 262144 + b1 % 64 * 4096 + b2 % 64 * 64 + b3 % 64 ≥ 65536 ∧ (b0 % 8 * 262144 + b1 % 64 * 4096 + b2 % 64 * 64 + b3 % 64 < 55296 ∨ (57344 ≤ b0 % 8 * 262144 + b1 % 64 * 4096 + b2 % 64 * 64 + b3 % 64 ∧ b0 % 8 * 262144 + b1 % 64 * 4096 + b2 % 64 * 64 + b3 % 64 ≤ 1114111))
    · rw [if_pos h]
      refine ⟨?_, show b0 % 8 * 262144 + b1 % 64 * 4096 + b2 % 64 * 64 + b3 % 64 ≤ 1114111 by omega⟩
      show b0 % 8 * 262144 + b1 % 64 * 4096 + b2 % 64 * 64 + b3 % 64 < 55296 ∨ 57343 < b0 % 8 * 262144 + b1 % 64 * 4096 + b2 % 64 * 64 + b3 % 64
      omega
    · rw [if_neg h] at hg; exact absurd rfl hg
  rw [if_neg k3] at hg
  exact absurd rfl hg
theorem ue_drop_byte (s : ByteArray) (j : Nat) (h : j < s.size) : s.toList.drop j = UInt8.ofNat (byteS s j) :: s.toList.drop (j + 1) := by
  obtain ⟨c, h1, h2⟩ := drop_at s j h
  rw [h1, ← h2, UInt8.ofNat_toNat]
theorem ue_bytes_list (s : ByteArray) (pos w : Nat) (h : pos + w ≤ s.size) (h1 : 1 ≤ w) (h4 : w ≤ 4) :
    (s.toList.drop pos).take w = ([byteS s pos, byteS s (pos + 1), byteS s (pos + 2), byteS s (pos + 3)].take w).map UInt8.ofNat := by
  have hw : w = 1 ∨ w = 2 ∨ w = 3 ∨ w = 4 := by omega
  rcases hw with rfl | rfl | rfl | rfl
  · rw [ue_drop_byte s pos (by omega)]; rfl
  · rw [ue_drop_byte s pos (by omega), ue_drop_byte s (pos + 1) (by omega)]; rfl
  · rw [ue_drop_byte s pos (by omega), ue_drop_byte s (pos + 1) (by omega), ue_drop_byte s (pos + 1 + 1) (by omega)]; rfl
  · rw [ue_drop_byte s pos (by omega), ue_drop_byte s (pos + 1) (by omega), ue_drop_byte s (pos + 1 + 1) (by omega), ue_drop_byte s (pos + 1 + 1 + 1) (by omega)]; rfl
theorem ue_enc_width {r w b0 b1 b2 b3 : Nat} (h : Enc r w b0 b1 b2 b3) : 1 ≤ w ∧ w ≤ 4 ∧ r ≤ 1114111 := by unfold Enc at h; omega
/-- a rune read well: its bytes -/
theorem ue_read_well (s : ByteArray) (pos : Nat) (h : pos < s.size) (hg : (Utf8.decode s pos).1 ≠ 65533) :
    Enc (Utf8.decode s pos).1 (Utf8.decode s pos).2 (byteS s pos) (byteS s (pos + 1)) (byteS s (pos + 2)) (byteS s (pos + 3)) ∧ ((Utf8.decode s pos).1 < 55296 ∨ 57343 < (Utf8.decode s pos).1) := by
  rw [decode_bytes] at hg ⊢
  exact ⟨decodeN_enc _ _ _ _ _ (byteS_lt _ _) hg, (ue_decodeN_good _ _ _ _ _ hg (byteS_lt _ _)).1⟩
theorem encode_enc (r w b0 b1 b2 b3 : Nat) (h : Enc r w b0 b1 b2 b3) (hs : r < 55296 ∨ 57343 < r) : (Utf8.encode (r : Int)).data.toList = ([b0, b1, b2, b3].take w).map UInt8.ofNat := by
  have hr : r ≤ 1114111 := (ue_enc_width h).2.2
  have hv : Utf8.valid (r : Int) = true := by
    unfold Utf8.valid
    simp only [Bool.or_eq_true, Bool.and_eq_true, decide_eq_true_eq]
    omega
  unfold Utf8.encode
  rw [if_pos hv]
  simp only [Int.toNat_natCast]
  rcases h with ⟨rfl, rfl, h⟩ | ⟨rfl, h0, h1, h2, h3⟩ | ⟨rfl, h0, h1, h2, h3, h4⟩ | ⟨rfl, h0, h1, h2, h3, h4, h5⟩
  · rw [if_pos (by omega)]; rfl
  · rw [if_neg (by omega), if_pos (by omega), h0, h1]; rfl
  · rw [if_neg (by omega), if_neg (by omega), if_pos (by omega), h0, h1, h2]; rfl
  · rw [if_neg (by omega), if_neg (by omega), if_neg (by omega), h0, h1, h2, h3]; rfl
theorem enc_rst {t : Tx} (h : 0 ≤ lenS t) (h0 : 0 < t.size) : Utf8.encode (labS t : Int) ++ rstS t = t := by
  obtain ⟨h1, h2, -⟩ := good_first h h0
  obtain ⟨e1, e2⟩ := ue_read_well t 0 h0 h1
  have hw := ue_enc_width e1
  have hx : Utf8.encode (labS t : Int) = t.extract 0 (Utf8.decode t 0).2 := by
    have hb := ue_bytes_list t 0 _ (by omega) hw.1 hw.2.1
    have he := encode_enc _ _ _ _ _ _ e1 e2
    rw [← hb, List.drop_zero, ByteArray.toList_eq] at he
    have hl : labS t = (Utf8.decode t 0).1 := rfl
    rw [hl]
    apply tx_ext
    rw [he]
    have hz := (extract_size t (Utf8.decode t 0).2 h2).1
    have hj : (t.extract 0 (Utf8.decode t 0).2 ++ rstS t).data.toList = t.data.toList := by rw [rst_split h h0]
    rw [show ∀ a b : ByteArray, (a ++ b).data.toList = a.data.toList ++ b.data.toList from fun a b => by simp] at hj
    rw [← hj]
    have hn : (t.extract 0 (Utf8.decode t 0).2).data.toList.length = (Utf8.decode t 0).2 := by rw [Array.length_toList]; exact hz
    exact List.take_left' hn
  rw [hx]
  exact rst_split h h0
end Go.Proofs.YtgnaiahnednllaaGreat
namespace Go.Proofs.YtgnaiahnednllaaGreat
open Go.RowKit
set_option linter.unusedVariables false
set_option maxRecDepth 20000
theorem ue_encode_list (r w b0 b1 b2 b3 : Nat) (h : Enc r w b0 b1 b2 b3) (hs : r < 55296 ∨ 57343 < r) : Lib.encodeRune (r : Int) = ([b0, b1, b2, b3].take w).map UInt8.ofNat := by
  unfold Lib.encodeRune
  rcases h with ⟨rfl, rfl, h⟩ | ⟨rfl, h0, h1, h2, h3⟩ | ⟨rfl, h0, h1, h2, h3, h4⟩ | ⟨rfl, h0, h1, h2, h3, h4, h5⟩
  · rw [Lib.encodeRuneZ_one (by omega) (by omega)]; rfl
  · rw [Lib.encodeRuneZ_two (by omega) (by omega)]
    have e0 : (192 + (r : Int) / 64).toNat = b0 := by omega
    have e1 : (128 + (r : Int) % 64).toNat = b1 := by omega
    simp only [List.map, e0, e1, List.take]
  · rw [Lib.encodeRuneZ_three (by omega)]
    have e0 : (224 + (r : Int) / 4096).toNat = b0 := by omega
    have e1 : (128 + (r : Int) / 64 % 64).toNat = b1 := by omega
    have e2 : (128 + (r : Int) % 64).toNat = b2 := by omega
    simp only [List.map, e0, e1, e2, List.take]
  · rw [Lib.encodeRuneZ_four (by omega) (by omega)]
    have e0 : (240 + (r : Int) / 262144).toNat = b0 := by omega
    have e1 : (128 + (r : Int) / 4096 % 64).toNat = b1 := by omega
    have e2 : (128 + (r : Int) / 64 % 64).toNat = b2 := by omega
    have e3 : (128 + (r : Int) % 64).toNat = b3 := by omega
    simp only [List.map, e0, e1, e2, e3, List.take]
/-- a first rune's text, and what is behind it -/
theorem text_rst {t : Tx} (h : 0 ≤ lenS t) (h0 : 0 < t.size) : textZ [(labS t : Int)] ++ rstS t = t := by
  obtain ⟨h1, h2, -⟩ := good_first h h0
  obtain ⟨e1, e2⟩ := ue_read_well t 0 h0 h1
  have hw := ue_enc_width e1
  have hl : labS t = (Utf8.decode t 0).1 := rfl
  have hg : allG [(labS t : Int)] := by
    intro z hz
    simp only [List.mem_singleton] at hz
    subst hz
    rw [hl]
    unfold goodP
    omega
  rw [(textZ_good hg).1]
  have he : encB [(labS t : Int)] = Utf8.encode (labS t : Int) := by
    rw [hl]
    apply tx_ext
    rw [encode_enc _ _ _ _ _ _ e1 e2, ← ue_encode_list _ _ _ _ _ _ e1 e2]
    simp [encB, encL]
  rw [he]
  exact enc_rst h h0
end Go.Proofs.YtgnaiahnednllaaGreat
namespace Go.Proofs.YtgnaiahnednllaaGreat
open Go.RowKit
set_option linter.unusedVariables false
set_option maxRecDepth 20000
theorem lab_good {t : Tx} (h : 0 ≤ lenS t) (h0 : 0 < t.size) : allG [(labS t : Int)] := by
  obtain ⟨h1, h2, -⟩ := good_first h h0
  obtain ⟨e1, e2⟩ := ue_read_well t 0 h0 h1
  have hw := ue_enc_width e1
  have hl : labS t = (Utf8.decode t 0).1 := rfl
  intro z hz
  simp only [List.mem_singleton] at hz
  subst hz
  rw [hl]
  unfold goodP
  omega
theorem fol_lab9 {m : List Tx} (h : Run m) (h0 : m ≠ []) : allG [((folS m).1 : Int)] ∧ (folS m).1 ≤ 1114111 := by
  cases m with
  | nil => exact absurd rfl h0
  | cons t m =>
    have h1 : allG [((folS (t :: m)).1 : Int)] := lab_good (h.lo t (by simp)) (h.pos t (by simp))
    have h2 := h1 _ (List.mem_singleton.2 rfl)
    unfold goodP at h2
    exact ⟨h1, by omega⟩
theorem fol_map9 {l : List Tx} (h : Run l) (h0 : l ≠ []) (s : Tx) : (folS l).2.map (fun x => (s ++ textZ [((folS l).1 : Int)]) ++ x) = (l.take (folS l).2.length).map (fun x => s ++ x) := by
  obtain ⟨k, hk, h1, h2⟩ := fol_split h0
  rw [← hk, h2, List.map_map]
  refine List.map_congr_left fun u hu => ?_
  have hm : u ∈ l := List.mem_of_mem_take hu
  have hl : labS u = (folS l).1 := by
    rw [h1] at hu
    have h3 := mem_tw (p := fun t => decide (labS t = labS (l.getD 0 ByteArray.empty))) hu
    rw [show labS u = labS (l.getD 0 ByteArray.empty) from of_decide_eq_true h3]
    cases l with
    | nil => exact absurd rfl h0
    | cons a l => rfl
  show (s ++ textZ [((folS l).1 : Int)]) ++ rstS u = s ++ u
  rw [← hl, ByteArray.append_assoc, text_rst (h.lo u hm) (h.pos u hm)]
theorem bitsV_nat9 (n : Nat) (h : n < 9223372036854775808) : bitsV (n : Int) = n := by
  have := bitsV_eq (n : Int)
  simp only [IntKind.wrap, IntKind.signed, IntKind.bits] at this
  simp at this
  omega
theorem edP_ok {e : EdP} {x k : Nat} (h1 : e.r = (x : Int)) (hx : x ≤ 1114111) (h2 : e.dst = (k : Int)) (hk : k < 65536) : runeL (edP e).1 = (x : Int) ∧ (edP e).2 = k := by
  unfold edP runeL
  rw [h1, h2, bitsV_nat9 x (by omega), bitsV_nat9 k (by omega)]
  simp only
  rw [Nat.mod_eq_of_lt (show x < 4294967296 by omega), Nat.mod_eq_of_lt hk]
  refine ⟨?_, rfl⟩
  simp only [IntKind.wrap, IntKind.signed, IntKind.bits]
  simp
  omega
/-- the texts, each with what is ahead -/
def onto (pre : Tx) (l : List Tx) : List Tx := l.map (fun x => pre ++ x)
def FolAll (L : List PN) (R : List (List Tx)) (f : Nat) : Prop := ∀ (F k : Nat) (l : List Tx) (pre : Tx) (left : Nat) (ws : List Tx), f ≤ F → R[k]? = some l → OkL f l → wtS l + 1 ≤ left → ∃ c, c ≤ wtS l + 1 ∧ folF L (F + 1) k pre left ws = (true, left - c, ws ++ onto pre l)
theorem folE_img {L : List PN} {R : List (List Tx)} {f F : Nat} (IH : FolAll L R f) (hF : f ≤ F) (hR : R.length ≤ 65536) (pre : Tx) : ∀ (es : List EdP) (m : List Tx) (left : Nat) (ws : List Tx), EdOk R m es → Run m → OkL (f + 1) m → wtS m ≤ left → ∃ c, c ≤ wtS m ∧ folE (folF L (F + 1)) pre (es.map edP) left ws = (true, left - c, ws ++ onto pre m)
  | [], m, left, ws, h, _, _, _ => by
    obtain rfl : m = [] := h
    exact ⟨0, Nat.zero_le _, by simp [folE, onto]⟩
  | e :: es, m, left, ws, h, hm, ho, hw => by
    obtain ⟨h0, h1, ⟨k, h2, h3⟩, h4⟩ := h
    obtain ⟨g1, g2⟩ := fol_lab9 hm h0
    have hk := (List.getElem?_eq_some_iff.1 h3).1
    obtain ⟨x1, x2⟩ := edP_ok h1 g2 h2 (by omega)
    have wf := wt_fol h0 hm.lo hm.pos
    obtain ⟨c1, hc1, e1⟩ := IH F k (folS m).2 (pre ++ labT (edP e).1) left ws hF h3 (ho.fol hm.pos) (by omega)
    obtain ⟨c2, hc2, e2⟩ := folE_img IH hF hR pre es (m.drop (folS m).2.length) (left - c1) (ws ++ onto (pre ++ labT (edP e).1) (folS m).2) h4 (hm.drop _) (ho.drop _) (by omega)
    refine ⟨c1 + c2, by omega, ?_⟩
    rw [List.map_cons]
    unfold folE
    rw [x1, if_pos g1, x2, e1]
    simp only [if_true]
    rw [e2, Nat.sub_sub, List.append_assoc]
    have e3 : onto (pre ++ labT (edP e).1) (folS m).2 = onto pre (m.take (folS m).2.length) := by
      unfold onto labT
      rw [x1]
      exact fol_map9 hm h0 pre
    rw [e3]
    unfold onto
    rw [← List.map_append, List.take_append_drop]
theorem fin_split (l : List Tx) (pre : Tx) (ws : List Tx) : (if finS l then ws ++ [pre] else ws) ++ onto pre (bodS l) = ws ++ onto pre l := by
  unfold bodS
  split
  · rename_i h
    unfold finS at h
    cases l with
    | nil => simp at h
    | cons t l =>
      simp only [List.head?_cons, Option.some.injEq, decide_eq_true_eq] at h
      subst h
      have e : pre ++ (⟨#[]⟩ : ByteArray) = pre := by
        apply tx_ext; simp
      simp [onto, e]
  · rfl
theorem folF_go9 (L : List PN) (f n : Nat) (pre : Tx) (left : Nat) (ws : List Tx) (h : ¬ (L.length ≤ n ∨ left = 0)) : folF L (f + 1) n pre left ws = folE (folF L f) pre (L.getD n ⟨false, []⟩).es (left - 1) (if (L.getD n ⟨false, []⟩).fin then ws ++ [pre] else ws) := by
  conv => lhs; unfold folF
  rw [if_neg h]
theorem fol_img {st : List GN} {ts : List Tx} (G : GOk st ts) (hl : st.length ≤ 65536) : ∀ f, FolAll (st.map pnG) (restsG st) f := by
  intro f
  induction f with
  | zero =>
    intro F k l pre left ws hF hR hO hw
    obtain ⟨hk, hr, hN⟩ := G.node hR
    have hb := bod_none hO
    have he := hN.ed
    rw [hr, hb] at he
    have hes : (st.getD k gn0).edges = [] := by
      cases h : (st.getD k gn0).edges with
      | nil => rfl
      | cons e es => rw [h] at he; exact absurd rfl he.1
    have hg : (st.map pnG).getD k ⟨false, []⟩ = ⟨finS l, []⟩ := by
      rw [List.getD_eq_getElem?_getD, List.getElem?_map, List.getElem?_eq_getElem hk]
      have e : st[k] = st.getD k gn0 := by rw [List.getD_eq_getElem?_getD, List.getElem?_eq_getElem hk]; rfl
      rw [Option.map_some, Option.getD_some, e]
      unfold pnG
      rw [hes, hN.fin, hr]; rfl
    refine ⟨1, by omega, ?_⟩
    rw [folF_go9 _ _ _ _ _ _ (by rw [List.length_map]; omega), hg]
    have := fin_split l pre ws
    rw [hb] at this
    simp only [folE]
    rw [← this]
    simp [onto]
  | succ f IH =>
    intro F k l pre left ws hF hR hO hw
    obtain ⟨F', rfl⟩ : ∃ F', F = F' + 1 := ⟨F - 1, by omega⟩
    obtain ⟨hk, hr, hN⟩ := G.node hR
    have he := hN.ed
    rw [hr] at he
    have hg : (st.map pnG).getD k ⟨false, []⟩ = ⟨finS l, (st.getD k gn0).edges.map edP⟩ := by
      rw [List.getD_eq_getElem?_getD, List.getElem?_map, List.getElem?_eq_getElem hk]
      have e : st[k] = st.getD k gn0 := by rw [List.getD_eq_getElem?_getD, List.getElem?_eq_getElem hk]; rfl
      rw [Option.map_some, Option.getD_some, e]
      unfold pnG
      rw [hN.fin, hr]
    obtain ⟨c, hc, ec⟩ := folE_img (F := F') IH (by omega) (by unfold restsG; rw [List.length_map]; exact hl) pre (st.getD k gn0).edges (bodS l) (left - 1) (if finS l then ws ++ [pre] else ws) he hO.run hO.bod (by have := wt_bod l; omega)
    have := wt_bod l
    refine ⟨c + 1, by omega, ?_⟩
    rw [folF_go9 _ _ _ _ _ _ (by rw [List.length_map]; omega), hg]
    simp only
    rw [ec, fin_split, Nat.sub_sub, Nat.add_comm 1 c]
end Go.Proofs.YtgnaiahnednllaaGreat
namespace Go.Proofs.YtgnaiahnednllaaGreat
open Go.RowKit
set_option linter.unusedVariables false
set_option maxRecDepth 20000
def GoodE (es : List PE) : Prop := ∀ e ∈ es, e.1 < 4294967296 ∧ e.2 < 65536
theorem rdE_good (bs : List Nat) (hb : ∀ b ∈ bs, b < 256) : ∀ (k at_ : Nat) (bad : Bool), GoodE (rdE bs bs.length k at_ bad).1 ∧ (rdE bs bs.length k at_ bad).1.length ≤ k
  | 0, at_, bad => ⟨fun e he => (by cases he), Nat.le_refl _⟩
  | k + 1, at_, bad => by
    have h1 := numR_lt bs bs.length at_ 4 bad hb rfl
    have h2 := numR_lt bs bs.length (atR bs.length at_ 4 bad) 2 (!okR bs.length at_ 4 bad) hb rfl
    rw [rdE_succ]
    simp only
    split
    · exact ⟨fun e he => by
        rw [List.mem_singleton] at he; subst he; exact ⟨h1, h2⟩, by simp⟩
    · have ih := rdE_good bs hb k (atR bs.length (atR bs.length at_ 4 bad) 2 (!okR bs.length at_ 4 bad)) false
      refine ⟨fun e he => ?_, by simp only [List.length_cons]; omega⟩
      rcases List.mem_cons.1 he with rfl | he
      · exact ⟨h1, h2⟩
      · exact ih.1 e he
theorem rdN_good (bs : List Nat) (hb : ∀ b ∈ bs, b < 256) (at_ : Nat) (bad : Bool) : GoodE (rdN bs bs.length at_ bad).1.es ∧ (rdN bs bs.length at_ bad).1.es.length ≤ 65535 := by
  have h := rdE_good bs hb (numR bs bs.length (atR bs.length at_ 1 bad) 2 (!okR bs.length at_ 1 bad)) (atR bs.length (atR bs.length at_ 1 bad) 2 (!okR bs.length at_ 1 bad)) (!okR bs.length (atR bs.length at_ 1 bad) 2 (!okR bs.length at_ 1 bad))
  have h2 := numR_lt bs bs.length (atR bs.length at_ 1 bad) 2 (!okR bs.length at_ 1 bad) hb rfl
  have h3 : (256 : Nat) ^ 2 = 65536 := by decide
  exact ⟨h.1, Nat.le_trans h.2 (by omega)⟩
def GoodNs (L : List PN) : Prop := ∀ x ∈ L, GoodE x.es ∧ x.es.length ≤ 65535
theorem rdL_good (bs : List Nat) (hb : ∀ b ∈ bs, b < 256) : ∀ (k at_ : Nat) (L : List PN) (e : Nat), rdL bs bs.length k at_ = some (L, e) → GoodNs L ∧ L.length ≤ k
  | 0, at_, L, e, h => by
    simp only [rdL, Option.some.injEq, Prod.mk.injEq] at h
    obtain ⟨rfl, -⟩ := h
    exact ⟨fun x hx => (by cases hx), Nat.le_refl _⟩
  | k + 1, at_, L, e, h => by
    simp only [rdL] at h
    split at h
    · cases h
    · rw [Option.map_eq_some_iff] at h
      obtain ⟨⟨L', e'⟩, h1, h2⟩ := h
      injection h2 with h2 h3
      subst h2
      obtain ⟨i1, i2⟩ := rdL_good bs hb k _ L' e' h1
      refine ⟨fun x hx => ?_, by simp only [List.length_cons]; omega⟩
      rcases List.mem_cons.1 hx with rfl | hx
      · exact rdN_good bs hb at_ false
      · exact i1 x hx
theorem readP_good {body : List Nat} (hb : ∀ b ∈ body, b < 256) {L : List PN} (h : readP body = some L) : GoodNs L ∧ L.length ≤ 65535 := by
  unfold readP at h
  split at h
  · simp only at h
    split at h
    · have hd : ∀ b ∈ body.drop 4, b < 256 := fun b hm => hb b (List.mem_of_mem_drop hm)
      have hn := numR_lt (body.drop 4) (body.drop 4).length 0 2 false hd rfl
      split at h
      · rename_i L' k hL
        split at h
        · injection h with h
          subst h
          have h3 : (256 : Nat) ^ 2 = 65536 := by decide
          have := rdL_good _ hd _ _ _ _ hL
          exact ⟨this.1, by omega⟩
        · cases h
      · cases h
    · cases h
  · cases h
theorem folE_size {rf : Nat → Tx → Nat → List Tx → Bool × Nat × List Tx} (hl : ∀ n pre left ws, (rf n pre left ws).2.1 ≤ left) (h : ∀ n pre left ws, ∀ t ∈ (rf n pre left ws).2.2, t ∈ ws ∨ t.size ≤ pre.size + 4 * left) (pre : Tx) : ∀ (es : List PE) (left : Nat) (ws : List Tx), ∀ t ∈ (folE rf pre es left ws).2.2, t ∈ ws ∨ t.size ≤ pre.size + 4 + 4 * left
  | [], left, ws => fun t ht => Or.inl ht
  | e :: es, left, ws => fun t ht => by
    have hs : (pre ++ labT e.1).size ≤ pre.size + 4 := by rw [ByteArray.size_append]; have := labT_size e.1; omega
    have hll := hl e.2 (pre ++ labT e.1) left ws
    have hh := h e.2 (pre ++ labT e.1) left ws
    unfold folE at ht
    split at ht
    · split at ht
      · rcases folE_size hl h pre es _ _ t ht with h1 | h1
        · rcases hh t h1 with h2 | h2
          · exact Or.inl h2
          · exact Or.inr (by omega)
        · exact Or.inr (by omega)
      · rcases hh t ht with h2 | h2
        · exact Or.inl h2
        · exact Or.inr (by omega)
    · exact Or.inl ht
theorem folF_size (L : List PN) : ∀ (f n : Nat) (pre : Tx) (left : Nat) (ws : List Tx), ∀ t ∈ (folF L f n pre left ws).2.2, t ∈ ws ∨ t.size ≤ pre.size + 4 * left
  | 0, n, pre, left, ws => fun t ht => Or.inl ht
  | f + 1, n, pre, left, ws => fun t ht => by
    unfold folF at ht
    split at ht
    · exact Or.inl ht
    · rename_i hc
      rcases folE_size (folF_left L f) (folF_size L f) pre _ _ _ t ht with h1 | h1
      · split at h1
        · rcases List.mem_append.1 h1 with h1 | h1
          · exact Or.inl h1
          · rw [List.mem_singleton] at h1; subst h1; exact Or.inr (by omega)
        · exact Or.inl h1
      · exact Or.inr (by omega)
theorem size_fourN9 : ∀ (n : Nat) (t : Tx), t.size ≤ n → 0 ≤ lenS t → (t.size : Int) ≤ 4 * lenS t
  | 0, t, h, h0 => by omega
  | n + 1, t, h, h0 => by
    rcases Nat.eq_zero_or_pos t.size with hz | hp
    · omega
    · have h1 := rst_size h0 hp
      have h2 := rst_len h0 hp
      have ih := size_fourN9 n (rstS t) (by omega) h2.1
      obtain ⟨g1, g2, -⟩ := good_first h0 hp
      obtain ⟨e1, e2⟩ := ue_read_well t 0 hp g1
      have hw := ue_enc_width e1
      omega
theorem good_sizes {ts : List Tx} (h : goodV ts = 0) : ∀ t ∈ ts, t.size ≤ 48 := fun t ht => by
  obtain ⟨h1, h2⟩ := (goodV_zero h).2.1 t ht
  have := size_fourN9 t.size t (Nat.le_refl _) (by omega)
  omega
/-- the words that nodes tell from the first on; none: they tell none -/
def wordsP (L : List PN) : Option (List Tx) := if (folF L 722 0 ⟨#[]⟩ 721 []).1 then some (folF L 722 0 ⟨#[]⟩ 721 []).2.2 else none
theorem wordsP_small {L : List PN} {ts : List Tx} (h : wordsP L = some ts) : ts.length ≤ 721 ∧ ∀ t ∈ ts, t.size ≤ 2884 := by
  unfold wordsP at h
  split at h
  · injection h with h
    subst h
    refine ⟨?_, fun t ht => ?_⟩
    · have := folF_few L 722 0 ⟨#[]⟩ 721 []
      simp only [List.length_nil] at this
      omega
    · rcases folF_size L 722 0 ⟨#[]⟩ 721 [] t ht with h1 | h1
      · cases h1
      · have e : (⟨#[]⟩ : ByteArray).size = 0 := rfl
        omega
  · cases h
theorem imgB_body (st : List GN) : (imgB st).take ((imgB st).length - 4) = bodyB st := by
  unfold imgB
  rw [sealB_len, Nat.add_sub_cancel]
  unfold sealB
  exact List.take_left' rfl
theorem grS_edges {ts : List Tx} (h : goodV ts = 0) : (grS ts).length ≤ 721 ∧ ∀ x ∈ grS ts, x.edges.length ≤ 100 :=
  ⟨grS_few h (fun t ht => by have := good_sizes h t ht; omega), (grS_ok h (fun t ht => by have := good_sizes h t ht; omega)).few⟩
theorem openB_img (st : List GN) : openB (imgB st) = true := by
  have hl : 4 ≤ (imgB st).length := by unfold imgB; rw [sealB_len]; omega
  unfold openB
  rw [imgB_body, decide_eq_true hl, Bool.true_and]
  refine decide_eq_true ?_
  unfold numN imgB
  rw [sealB_len, Nat.add_sub_cancel]
  unfold sealB
  rw [List.drop_left' rfl, List.take_of_length_le (by rw [Cod.bytesOf_length]; omega), Cod.numOf_bytesOf]
  exact Nat.mod_eq_of_lt (sum_lt9 _)
theorem onto_empty (l : List Tx) : onto ⟨#[]⟩ l = l := by
  unfold onto
  refine (List.map_congr_left fun t _ => ?_).trans (List.map_id l)
  apply tx_ext; simp
theorem wordsP_img {ts : List Tx} (h : goodV ts = 0) : readP (bodyB (grS ts)) = some ((grS ts).map pnG) ∧ wordsP ((grS ts).map pnG) = some ts := by
  have hs : ∀ t ∈ ts, t.size ≤ 100 := fun t ht => by have := good_sizes h t ht; omega
  obtain ⟨h1, h2⟩ := grS_edges h
  have G := grS_ok h hs
  have hO := ok_good h hs
  have hw : wtS ts ≤ 720 := by
    have h3 := wt_good ts hO.hi
    have := (goodV_zero h).1
    omega
  refine ⟨readP_img (by omega) (fun x hx => by have := h2 x hx; omega), ?_⟩
  obtain ⟨c, hc, e⟩ := fol_img G (by omega) 12 721 0 ts ⟨#[]⟩ 721 [] (by omega) G.root hO (by omega)
  unfold wordsP
  rw [e]
  simp [onto_empty]
/-- what Decode tells of any bytes -/
def decS (bs : List Nat) : Option (List Tx) :=
  if openB bs then
    match readP (bs.take (bs.length - 4)) with
    | some L =>
      match wordsP L with
      | some ts => if goodV ts = 0 ∧ imgB (grS ts) = bs then some ts else none
      | none => none
    | none => none
  else none
theorem decS_some {bs : List Nat} {ts : List Tx} (h : decS bs = some ts) : goodV ts = 0 ∧ imgB (grS ts) = bs := by
  unfold decS at h
  split at h
  · split at h
    · split at h
      · split at h
        · rename_i hx
          injection h with h
          subst h
          exact hx
        · cases h
      · cases h
    · cases h
  · cases h
theorem decS_img {ts : List Tx} (h : goodV ts = 0) : decS (imgB (grS ts)) = some ts := by
  obtain ⟨h1, h2⟩ := wordsP_img h
  unfold decS
  rw [openB_img, imgB_body, h1]
  simp [h2, h]
end Go.Proofs.YtgnaiahnednllaaGreat
namespace Go.Proofs.YtgnaiahnednllaaGreat
open Go.RowKit
set_option linter.unusedVariables false
set_option maxRecDepth 20000
theorem fol_any (l : Nat) (NL : List PM) (na : Option Addr) (nc : Nat) (hG : GoodPM NL) (hlen : NL.length ≤ 70000) (hes : ∀ x ∈ NL, x.es.length ≤ 70000) : ∀ f, LisAny l NL na nc f := by
  intro f
  induction f with
  | zero => exact fol_step l NL na nc 0 hG hlen hes (fun f' h => by omega)
  | succ f ih => exact fol_step l NL na nc (f + 1) hG hlen hes (fun f' h => by obtain rfl : f = f' := by omega
                                                                               exact ih)
theorem PR9.less {B B' : Nat} {NL : List PM} {na : Option Addr} {nc : Nat} {w : World} (h : PR9 B NL na nc w) (hB : B' ≤ B) : PR9 B' NL na nc w := ⟨base_less9 h.o hB, fun x hx => base_less9 (h.e x hx) hB, h.ne⟩
def WordsP (w : World) (x : Option (List Tx)) (e : Ending) (w' : World) : Prop := Below w.heap.size w w' ∧ match x with
  | some ts => ∃ wa wc, e = .returned (.tuple #[.slice wa ts.length wc, .bool true]) ∧ w'.ownsRow w.heap.size 9 1 (.slice wa ts.length wc) ts.length (strsV ts)
  | none => ∃ v, e = .returned (.tuple #[v, .bool false])
set_option maxHeartbeats 1600000 in
theorem words_any (NL : List PM) (na : Option Addr) (nc B : Nat) (w : World) (h : PR9 B NL na nc w) (hg : GoodNs (NL.map pmP)) (hl : NL.length ≤ 65535) :
    Calls Tryz.prog 141 #[.slice na NL.length nc] w (WordsP w (wordsP (NL.map pmP))) := by
  have hG : GoodPM NL := fun x hx => (hg (pmP x) (List.mem_map_of_mem hx)).1
  have hes : ∀ x ∈ NL, x.es.length ≤ 70000 := fun x hx => by
    have h2 : x.es.length ≤ 65535 := (hg (pmP x) (List.mem_map_of_mem hx)).2
    omega
  have hb1 := below_one w (.cells #[.slice na NL.length nc, .int .i64 721, .slice none 0 0] 269)
  have FL := Lib.hid (show FL9 w.heap.size NL na nc 721 [] none 0 (w.alloc (.cells #[.slice na NL.length nc, .int .i64 721, .slice none 0 0] 269)) from
    ⟨by rw [cell_alloc rfl]; rfl, by rw [cell_alloc rfl]; rfl, by rw [cell_alloc rfl]; rfl, fun i => frozen_alloc rfl, World.ownsRow_nil _ _ _ _,
      (h.less (Nat.zero_le B)).turn (T := fun _ => False) (Turn.of_below hb1) (fun _ _ x => x) (fun _ _ _ _ x => x),
      fun k e => (h.o.lt k (by rw [e]; rfl)).2, fun x hx k e => ((h.e x hx).lt k (by rw [e]; rfl)).2⟩)
  have CF := Lib.hid (fol_any w.heap.size NL na nc hG (by omega) hes 721 0 ⟨#[]⟩ 721 [] none 0 _ FL.out (by omega) (by omega) (by simp) (by decide) (by omega))
  have B1 := Lib.hid (show Below w.heap.size w (w.alloc (.cells #[.slice na NL.length nc, .int .i64 721, .slice none 0 0] 269)) from hb1)
  obtain ⟨r, hr⟩ : ∃ r, folF (NL.map pmP) 722 0 ⟨#[]⟩ 721 [] = r := ⟨_, rfl⟩
  rw [show folF (NL.map pmP) (721 + 1) 0 ⟨#[]⟩ 721 [] = r from hr] at CF
  have WP := Lib.hid (show wordsP (NL.map pmP) = if r.1 then some r.2.2 else none from by unfold wordsP; rw [hr])
  obtain ⟨N, hN⟩ : ∃ N, NL.length = N := ⟨_, rfl⟩
  rw [hN] at CF FL B1 ⊢
  clear h hg hl hG hes hb1 FL hr
  rw [show ((0 : Nat) : Int) = 0 from rfl] at CF
  go_enter Tryz.func141, Tryz.ntmps141
  go_wp2_with fail
  with_reducible refine CF.out.mono ?_
  rintro e w2 ⟨rfl, ⟨wa, wc, L2⟩, b2⟩
  have H2 := Lib.hid L2
  have B2 := Lib.hid (B1.out.trans b2)
  obtain ⟨ok, lf, ws⟩ := r
  have c2 := L2.c2
  clear L2 b2 CF
  cases ok with
  | true =>
    have WT := Lib.hid (show wordsP (NL.map pmP) = some ws from WP.out)
    go_wp2_with fail
    go_ret2
    refine ⟨B2.out, ?_⟩
    rw [WT.out]
    exact ⟨wa, wc, rfl, base_less9 H2.out.o (by omega)⟩
  | false =>
    have WT := Lib.hid (show wordsP (NL.map pmP) = none from WP.out)
    go_wp2_with fail
    go_ret2
    refine ⟨B2.out, ?_⟩
    rw [WT.out]
    exact ⟨_, rfl⟩
end Go.Proofs.YtgnaiahnednllaaGreat
namespace Go.Proofs.YtgnaiahnednllaaGreat
open Go.RowKit
set_option linter.unusedVariables false
set_option maxRecDepth 20000
def DecP (w : World) (bs : List Nat) (e : Ending) (w' : World) : Prop := Below w.heap.size w w' ∧ match decS bs with
  | some ts => ∃ g S, e = .returned (.tuple #[.pointer (some ⟨g, 0, none⟩), .int .i64 0]) ∧ CtxG w w' g (grS ts) S
  | none => e = .returned (.tuple #[.pointer none, .int .i64 (if openB bs then 8 else 9)])
theorem decP_bad {w w' : World} {bs : List Nat} (hb : Below w.heap.size w w') (ho : openB bs = true) (hd : decS bs = none) : DecP w bs (.returned (.tuple #[.pointer none, .int .i64 8])) w' := by
  refine ⟨hb, ?_⟩
  rw [hd, ho]
  rfl
set_option maxHeartbeats 3200000 in
theorem decode_any (a : Option Addr) (n cap : Nat) (bs : List Nat) (w : World) (h : HoldsB w a n bs) (hc : n ≤ cap) (hn : n ≤ 1048576) :
    Calls Tryz.prog 91 #[.slice a n cap] w (DecP w bs) := by
  have hl := h.len
  have CS := Lib.hid (wSealed_any a n cap bs w h hn hc)
  have H := Lib.hid h
  cases ho : openB bs with
  | false =>
    rw [ho] at CS
    simp only [Bool.false_eq_true, if_false] at CS
    have FIN := Lib.hid (show DecP w bs (.returned (.tuple #[.pointer none, .int .i64 9])) w from by
      refine ⟨Below.refl _ _, ?_⟩
      have hd : decS bs = none := by unfold decS; rw [ho]; rfl
      rw [hd, ho]
      rfl)
    clear h hl ho
    go_enter Tryz.func91, Tryz.ntmps91
    go_wp2_with fail
    with_reducible refine CS.out.mono ?_
    rintro e w1 ⟨rfl, rfl⟩
    go_wp2_with fail
    go_ret2
    exact FIN.out
  | true =>
    rw [ho] at CS
    simp only [if_true] at CS
    have h4 : 4 ≤ n := by
      unfold openB at ho
      rw [Bool.and_eq_true] at ho
      have := of_decide_eq_true ho.1
      omega
    obtain ⟨k, hk⟩ : ∃ k, n - 4 = k := ⟨_, rfl⟩
    obtain ⟨body, hbo⟩ : ∃ b, bs.take (bs.length - 4) = b := ⟨_, rfl⟩
    have hB : HoldsB w a k body := by
      obtain ⟨q, o, rfl, -⟩ := h.at (by omega)
      rw [← hbo, hl, hk]
      exact h.front k (by omega)
    have CR := Lib.hid (read_any a k cap body w hB (by omega) (by omega))
    have hb256 : ∀ b ∈ body, b < 256 := hB.2
    have DS := Lib.hid (show decS bs = (match readP body with
      | some L => (match wordsP L with
        | some ts => if goodV ts = 0 ∧ imgB (grS ts) = bs then some ts else none
        | none => none)
      | none => none) from by
      unfold decS
      rw [ho, if_pos rfl, hbo]
      all_goals (cases readP body <;> first | rfl | (rename_i L; cases wordsP L <;> rfl)))
    have HO := Lib.hid ho
    rw [hk] at CS
    clear h hl ho hbo hk hB
    go_enter Tryz.func91, Tryz.ntmps91
    go_wp2_with fail
    with_reducible refine CS.out.mono ?_
    rintro e w1 ⟨rfl, rfl⟩
    go_wp2_with fail
    with_reducible refine CR.out.mono ?_
    rintro e w1 ⟨hb1, hr⟩
    have B1 := Lib.hid hb1
    clear hb1 CS CR
    cases hp : readP body with
    | none =>
      rw [hp] at hr
      obtain ⟨v, rfl⟩ := hr
      have FIN := Lib.hid (decP_bad B1.out HO.out (by rw [DS.out, hp]))
      clear hp
      go_wp2_with fail
      go_ret2
      exact FIN.out
    | some L =>
      rw [hp] at hr
      obtain ⟨na, nc, NL, hNL, rfl, q1⟩ := hr
      have DS2 := Lib.hid (show decS bs = (match wordsP L with
        | some ts => if goodV ts = 0 ∧ imgB (grS ts) = bs then some ts else none
        | none => none) from by rw [DS.out, hp])
      obtain ⟨g1, g2⟩ := readP_good hb256 hp
      subst hNL
      have CW := Lib.hid (words_any NL na nc _ w1 q1 g1 (by simpa using g2))
      clear hp hb256 q1 g1 g2 DS
      go_wp2_with fail
      with_reducible refine CW.out.mono ?_
      rintro e w2 ⟨hb2, hr⟩
      have B2 := Lib.hid (B1.out.trans (hb2.mono B1.out.size))
      clear hb2 CW
      cases hp : wordsP (NL.map pmP) with
      | none =>
        rw [hp] at hr
        obtain ⟨v, rfl⟩ := hr
        have FIN := Lib.hid (decP_bad B2.out HO.out (by rw [DS2.out, hp]))
        clear hp
        go_wp2_with fail
        go_ret2
        exact FIN.out
      | some ts =>
        rw [hp] at hr
        obtain ⟨wa, wc, rfl, o2⟩ := hr
        obtain ⟨s1, s2⟩ := wordsP_small hp
        have DS3 := Lib.hid (show decS bs = (if goodV ts = 0 ∧ imgB (grS ts) = bs then some ts else none) from by rw [DS2.out, hp])
        have HT : HoldsT w2 wa ts.length ts := HoldsT.own o2
        have hcap : ts.length ≤ wc := (owns_none o2).2
        by_cases hv : goodV ts = 0
        · have hs : ∀ t ∈ ts, t.size ≤ 100 := fun t ht => by have := good_sizes hv t ht; omega
          have CB := Lib.hid (build_c (w0 := w) wa ts.length wc ts (grS ts) w2 B2.out HT hcap (by omega) hs hv rfl)
          have CE := Lib.hid (fun g S (w' : World) (h : GAt g (grS ts) w' S) => encode_of g ts S w' h hv hs)
          have HV := Lib.hid hv
          clear hp hv hs HT o2 DS2 s1 s2
          go_wp2_with fail
          with_reducible refine CB.out.mono ?_
          rintro e w3 ⟨g, S, rfl, hC, hb3⟩
          have C3 := Lib.hid (CE.out g S w3 hC.G)
          have X3 := Lib.hid hC
          have HB3 := Lib.hid (H.out.below hC.b)
          clear hC hb3 CE CB
          go_wp2_with fail
          with_reducible refine C3.out.mono ?_
          rintro e w4 ⟨a4, c4, rfl, o4, b4, -⟩
          have X4 := Lib.hid (X3.out.more b4)
          have CQ := Lib.hid (bEqual_any a4 a (imgB (grS ts)).length c4 n cap (imgB (grS ts)) bs w4 (holdsB_of_values (owns_holds o4) (sealB_lt _ (bodyB_lt _))) (HB3.out.below b4))
          clear o4 b4 C3 HB3
          by_cases he : imgB (grS ts) = bs
          · rw [decide_eq_true he] at CQ
            have FIN := Lib.hid (show DecP w bs (.returned (.tuple #[.pointer (some ⟨g, 0, none⟩), .int .i64 0])) w4 from by
              refine ⟨X4.out.b, ?_⟩
              rw [DS3.out, if_pos ⟨HV.out, he⟩]
              exact ⟨g, S, rfl, X4.out⟩)
            clear he
            go_wp2_with fail
            with_reducible refine CQ.out.mono ?_
            rintro e w5 ⟨rfl, rfl⟩
            go_wp2_with fail
            go_ret2
            exact FIN.out
          · rw [decide_eq_false he] at CQ
            have FIN := Lib.hid (decP_bad X4.out.b HO.out (by rw [DS3.out, if_neg (fun h => he h.2)]))
            clear he
            go_wp2_with fail
            with_reducible refine CQ.out.mono ?_
            rintro e w5 ⟨rfl, rfl⟩
            go_wp2_with fail
            go_ret2
            exact FIN.out
        · have CB := Lib.hid (build_bad wa ts.length wc ts (goodV ts) w2 HT (by omega) (fun t ht => by have := s2 t ht; omega) rfl hv)
          have ne : (goodV ts != 0) = true := by simpa using hv
          have FIN := Lib.hid (fun w' (hb : Below w.heap.size w w') => decP_bad hb HO.out (by rw [DS3.out, if_neg (fun h => hv h.1)]))
          obtain ⟨gv, hgv⟩ : ∃ v, goodV ts = v := ⟨_, rfl⟩
          rw [hgv] at CB ne
          clear hp hv HT o2 DS2 s1 s2 hgv
          go_wp2_with fail
          with_reducible refine CB.out.mono ?_
          rintro e w3 ⟨rfl, hb3⟩
          have F3 := Lib.hid (FIN.out w3 (B2.out.trans (hb3.mono B2.out.size)))
          clear hb3 CB FIN
          go_wp2_with fail
          go_ret2
          exact F3.out
end Go.Proofs.YtgnaiahnednllaaGreat
namespace Go.Proofs.YtgnaiahnednllaaGreat
open Go.RowKit
set_option linter.unusedVariables false
set_option maxRecDepth 20000
/-- what of a text is laid -/
def cutS (s : ByteArray) : ByteArray := s.extract 0 (min s.size 65535)
end Go.Proofs.YtgnaiahnednllaaGreat
namespace Go.Proofs.YtgnaiahnednllaaGreat
open Go.RowKit
set_option linter.unusedVariables false
set_option maxRecDepth 20000
theorem GAt.edges {g : Nat} {st : List GN} {w : World} {Sg S : Nat → Prop} (h : GAt g st w Sg) (hA : ∀ k, Sg k → ¬ S k) {n : Nat} (hn : n < st.length) : ∃ q nc ea ec, w.cell? ⟨g, 0, none⟩ = some (.slice (some ⟨q, 0, none⟩) st.length nc) ∧ w.cell? ⟨q, n * 2, none⟩ = some (.bool (st.getD n gn0).final) ∧ (∀ w', Turn S w w' → w'.cell? ⟨g, 0, none⟩ = some (.slice (some ⟨q, 0, none⟩) st.length nc) ∧ w'.cell? ⟨q, n * 2 + 1, none⟩ = some (.slice ea (st.getD n gn0).edges.length ec) ∧ HoldsEd w' ea (st.getD n gn0).edges.length (st.getD n gn0).edges) := by
  obtain ⟨na, nc, NL, G, e⟩ := h
  obtain ⟨e1, e2⟩ := map_eqG _ _ e
  have c := G.c
  obtain ⟨q, rfl, c0, c1⟩ := G.at (i := n) (by omega)
  obtain ⟨e3, e4⟩ := e2 n hn
  rw [e1] at c
  rw [e3] at c0
  have ei := G.e _ (mem_nm (show n < NL.length by omega))
  unfold EdIn at ei
  rw [e4] at c1 ei
  exact ⟨q, nc, _, _, c, c0, fun w' t => ⟨(t.cell (lt_of_cell c) (hA _ G.sg)).trans c, (t.cell (lt_of_cell c1) (hA _ (G.sn q rfl).1)).trans c1, holdsEd_blocks ei.1 (fun fb fo e => t.block fb (G.lt fb (ei.2.2.2 fb fo e).1) (hA _ (ei.2.2.2 fb fo e).1))⟩⟩
theorem fol_map {l : List Tx} (h : Run l) (h0 : l ≠ []) (s : Tx) : (folS l).2.map (fun x => (s ++ Utf8.encode ((folS l).1 : Int)) ++ x) = (l.take (folS l).2.length).map (fun x => s ++ x) := by
  obtain ⟨k, hk, h1, h2⟩ := fol_split h0
  rw [← hk, h2, List.map_map]
  refine List.map_congr_left fun u hu => ?_
  have hm : u ∈ l := List.mem_of_mem_take hu
  have hl : labS u = (folS l).1 := by
    rw [h1] at hu
    have h3 := mem_tw (p := fun t => decide (labS t = labS (l.getD 0 ByteArray.empty))) hu
    rw [show labS u = labS (l.getD 0 ByteArray.empty) from of_decide_eq_true h3]
    cases l with
    | nil => exact absurd rfl h0
    | cons a l => rfl
  show (s ++ Utf8.encode ((folS l).1 : Int)) ++ rstS u = s ++ u
  rw [← hl, ByteArray.append_assoc, enc_rst (h.lo u hm) (h.pos u hm)]
theorem drop_ed (l : List EdP) (j : Nat) (h : j < l.length) : l.drop j = l.getD j ed0 :: l.drop (j + 1) := by
  rw [List.drop_eq_getElem_cons h, List.getD_eq_getElem?_getD, List.getElem?_eq_getElem h]; rfl
end Go.Proofs.YtgnaiahnednllaaGreat
namespace Go.Proofs.YtgnaiahnednllaaGreat
open Go.RowKit
set_option linter.unusedVariables false
set_option maxRecDepth 20000
theorem decode_yes (a : Option Addr) (n cap : Nat) (bs : List Nat) (ts : List Tx) (st : List GN) {w0 : World} (w : World) (hw : Below w0.heap.size w0 w) (h : HoldsB w a n bs) (hc : n ≤ cap) (hn : n ≤ 1048576) (hd : decS bs = some ts) (hst : grS ts = st) :
    Calls Tryz.prog 91 #[.slice a n cap] w fun e w' => ∃ g S, e = .returned (.tuple #[.pointer (some ⟨g, 0, none⟩), .int .i64 0]) ∧ CtxG w0 w' g st S ∧ Below w.heap.size w w' := by
  refine (decode_any a n cap bs w h hc hn).mono ?_
  rintro e w' ⟨hb, hr⟩
  rw [hd] at hr
  obtain ⟨g, S, rfl, C⟩ := hr
  subst hst
  exact ⟨g, S, rfl, ⟨C.G, fun k hk => Nat.le_trans hw.size (C.s k hk), hw.trans (hb.mono hw.size)⟩, hb⟩
theorem decode_no (a : Option Addr) (n cap : Nat) (bs : List Nat) (x : Int) (w : World) (h : HoldsB w a n bs) (hc : n ≤ cap) (hn : n ≤ 1048576) (hd : decS bs = none) (hx : (if openB bs then (8 : Int) else 9) = x) :
    Calls Tryz.prog 91 #[.slice a n cap] w fun e w' => e = .returned (.tuple #[.pointer none, .int .i64 x]) ∧ Below w.heap.size w w' := by
  refine (decode_any a n cap bs w h hc hn).mono ?_
  rintro e w' ⟨hb, hr⟩
  rw [hd] at hr
  subst hx
  exact ⟨hr, hb⟩
theorem imgB_lt (st : List GN) : ∀ b ∈ imgB st, b < 256 := sealB_lt _ (bodyB_lt _)
/-- Of, its bytes named -/
theorem pOf_c (a : Option Addr) (n cap : Nat) (ts : List Tx) (I : List Nat) (m : Nat) {w0 : World} (w : World) (hw : Below w0.heap.size w0 w) (hh : HoldsT w a n ts) (hc : n ≤ cap) (hn : n ≤ 9223372036854775807) (hv : goodV ts = 0) (hI : imgB (grS ts) = I) (hm : I.length = m) :
    Calls Tryz.prog 138 #[.slice a n cap] w fun e w' => ∃ a' c', e = .returned (.tuple #[.slice a' m c', .int .i64 0]) ∧ w'.ownsRow w0.heap.size 5 1 (.slice a' m c') m (bytesV I) ∧ HoldsB w' a' m I ∧ m ≤ c' ∧ Below w0.heap.size w0 w' ∧ Below w.heap.size w w' := by
  subst hI hm
  refine (pOf_good a n cap ts w hh hc hn (fun t ht => by have := good_sizes hv t ht; omega) hv).mono ?_
  rintro e w' ⟨a2, c2, rfl, h1, h2, -⟩
  exact ⟨a2, c2, rfl, base_less9 h1 hw.size, holdsB_of_values (owns_holds h1) (imgB_lt _), (owns_none h1).2, hw.trans (h2.mono hw.size), h2⟩
theorem imgB_len {ts : List Tx} (h : goodV ts = 0) : 10 ≤ (imgB (grS ts)).length ∧ (imgB (grS ts)).length ≤ 524004 := by
  obtain ⟨h1, h2⟩ := grS_edges h
  have h3 := bodyB_len h2 (by omega)
  unfold imgB
  rw [sealB_len]
  refine ⟨?_, by omega⟩
  unfold bodyB
  rw [List.length_append, List.length_append, Cod.bytesOf_length]
  simp only [List.length_cons, List.length_nil]
  omega
end Go.Proofs.YtgnaiahnednllaaGreat
namespace Go.Proofs.YtgnaiahnednllaaGreat
set_option linter.unusedVariables false
set_option maxRecDepth 20000
namespace Ed
def cost (x y : Int) : Int := if x = y then 0 else 1
theorem cost_bd (x y : Int) : 0 ≤ cost x y ∧ cost x y ≤ 1 := by unfold cost; split <;> omega
/-- the distance of the first i of a and the first j of b -/
def L (a b : List Int) : Nat → Nat → Int
  | 0, j => j
  | i + 1, 0 => (i : Int) + 1
  | i + 1, j + 1 => min (min (L a b i j + cost (a.getD i 0) (b.getD j 0)) (L a b (i + 1) j + 1)) (L a b i (j + 1) + 1)
/-- a row of the table turned into the next one, for the rune r -/
def adv (R : List Int) (a : List Int) (r : Int) : Nat → Int
  | 0 => R.getD 0 0 + 1
  | i + 1 => min (min (R.getD i 0 + cost (a.getD i 0) r) (R.getD (i + 1) 0 + 1)) (adv R a r i + 1)
/-- the row of the first j of b -/
def row (a b : List Int) (j : Nat) : List Int := (List.range (a.length + 1)).map fun i => L a b i j
theorem row_length (a b : List Int) (j : Nat) : (row a b j).length = a.length + 1 := by simp [row]
theorem row_getD (a b : List Int) (j i : Nat) (h : i ≤ a.length) : (row a b j).getD i 0 = L a b i j := by
  simp [row, List.getD_eq_getElem?_getD, show i < a.length + 1 by omega]
theorem adv_row (a b : List Int) (j i : Nat) (h : i ≤ a.length) : adv (row a b j) a (b.getD j 0) i = L a b i (j + 1) := by
  induction i with
  | zero => rw [adv, row_getD a b j 0 (by omega)]; simp only [L]; omega
  | succ i ih => rw [adv, row_getD a b j i (by omega), row_getD a b j (i + 1) h, ih (by omega)]; simp only [L]
/-- the first k + 1 of a row turned, the rest as it was -/
def mix (R : List Int) (a : List Int) (r : Int) (k : Nat) : List Int := (List.range R.length).map fun i => if i ≤ k then adv R a r i else R.getD i 0
theorem mix_length (R a : List Int) (r : Int) (k : Nat) : (mix R a r k).length = R.length := by simp [mix]
theorem mix_old (R a : List Int) (r : Int) (k i : Nat) (h : i < R.length) (hk : k < i) : (mix R a r k).getD i 0 = R.getD i 0 := by
  simp [mix, List.getD_eq_getElem?_getD, h, show ¬ i ≤ k by omega]
theorem mix_new (R a : List Int) (r : Int) (k i : Nat) (h : i < R.length) (hk : i ≤ k) : (mix R a r k).getD i 0 = adv R a r i := by
  simp [mix, List.getD_eq_getElem?_getD, h, hk]
theorem mix_set (R a : List Int) (r : Int) (k : Nat) (h : k + 1 < R.length) : (mix R a r k).set (k + 1) (adv R a r (k + 1)) = mix R a r (k + 1) := by
  apply List.ext_getElem
  · simp [mix]
  · intro i h1 h2
    rw [List.getElem_set]
    simp only [mix, List.getElem_map, List.getElem_range]
    by_cases e : k + 1 = i
    · subst e; simp
    · rw [if_neg e]
      by_cases h3 : i ≤ k
      · simp [h3, show i ≤ k + 1 by omega]
      · simp [h3, show ¬ i ≤ k + 1 by omega]
theorem mix_zero (R a : List Int) (r : Int) (h : 0 < R.length) : R.set 0 (R.getD 0 0 + 1) = mix R a r 0 := by
  apply List.ext_getElem
  · simp [mix]
  · intro i h1 h2
    rw [List.getElem_set]
    simp only [mix, List.getElem_map, List.getElem_range]
    by_cases e : 0 = i
    · subst e; simp [adv]
    · rw [if_neg e, if_neg (by omega)]
      have h3 : i < R.length := by simpa using h1
      simp [List.getD_eq_getElem?_getD, h3]
theorem mix_all (a b : List Int) (j : Nat) : mix (row a b j) a (b.getD j 0) a.length = row a b (j + 1) := by
  unfold mix
  rw [row_length]
  refine List.map_congr_left fun i hi => ?_
  have := List.mem_range.1 hi
  rw [if_pos (by omega), adv_row a b j i (by omega)]
theorem adv_bd (R a : List Int) (r M : Int) (hM : 0 ≤ M) (h : ∀ i, 0 ≤ R.getD i 0 ∧ R.getD i 0 ≤ M) (i : Nat) : 0 ≤ adv R a r i ∧ adv R a r i ≤ M + 1 := by
  induction i with
  | zero => have := h 0; simp only [adv]; omega
  | succ i ih => have h1 := h i; have h2 := h (i + 1); have h3 := cost_bd (a.getD i 0) r; simp only [adv]; omega
theorem L_bd (a b : List Int) : ∀ i j, 0 ≤ L a b i j ∧ L a b i j ≤ (i : Int) + j := by
  intro i
  induction i with
  | zero => intro j; simp only [L]; omega
  | succ i ih =>
    intro j
    induction j with
    | zero => simp only [L]; omega
    | succ j ihj => have h1 := ih j; have h2 := ih (j + 1); have h3 := cost_bd (a.getD i 0) (b.getD j 0); simp only [L]; omega
end Ed
end Go.Proofs.YtgnaiahnednllaaGreat
namespace Go.Proofs.YtgnaiahnednllaaGreat
set_option linter.unusedVariables false
set_option maxRecDepth 20000
namespace Ed
theorem L_zero (a b : List Int) (i : Nat) : L a b i 0 = (i : Int) := by
  cases i with
  | zero => simp only [L]
  | succ i => simp only [L]; omega
theorem L_zeroL (a b : List Int) (j : Nat) : L a b 0 j = (j : Int) := by simp only [L]
theorem L_left (a b : List Int) (i j : Nat) : L a b (i + 1) j ≤ L a b i j + 1 := by
  cases j with
  | zero => rw [L_zero, L_zero]; omega
  | succ j => simp only [L]; omega
theorem L_right (a b : List Int) (i j : Nat) : L a b i (j + 1) ≤ L a b i j + 1 := by
  cases i with
  | zero => rw [L_zeroL, L_zeroL]; omega
  | succ i => simp only [L]; omega
end Ed
end Go.Proofs.YtgnaiahnednllaaGreat
namespace Go.Proofs.YtgnaiahnednllaaGreat
set_option linter.unusedVariables false
set_option maxRecDepth 20000
namespace Ed
theorem cost_sym (x y : Int) : cost x y = cost y x := by
  unfold cost
  by_cases h : x = y
  · rw [if_pos h, if_pos h.symm]
  · rw [if_neg h, if_neg (fun e => h e.symm)]
theorem L_sym (a b : List Int) : ∀ i j, L a b i j = L b a j i := by
  intro i
  induction i with
  | zero => intro j; rw [L_zeroL, L_zero]
  | succ i ih =>
    intro j
    induction j with
    | zero => rw [L_zero, L_zeroL]
    | succ j ihj =>
      have h1 := ih j; have h2 := ih (j + 1); have h3 := cost_sym (a.getD i 0) (b.getD j 0)
      simp only [L]
      rw [h1, h2, ihj, h3]
      omega
theorem L_low (a b : List Int) : ∀ (i j : Nat), (i : Int) - j ≤ L a b i j ∧ (j : Int) - i ≤ L a b i j := by
  intro i
  induction i with
  | zero => intro j; rw [L_zeroL]; omega
  | succ i ih =>
    intro j
    induction j with
    | zero => rw [L_zero]; omega
    | succ j ihj => have h1 := ih j; have h2 := ih (j + 1); have h3 := cost_bd (a.getD i 0) (b.getD j 0); simp only [L]; omega
end Ed
end Go.Proofs.YtgnaiahnednllaaGreat
