/- queue: asks come out in the order in which they came -/
import Derived.Test.YthcfpohgjgbhpaaPkB
import Derived.Test.YthcfpohgjgbhpaaPkA
namespace Go.Proofs.Ythcfpohgjgbhpaa
open Go.RowKit
set_option linter.unusedVariables false
set_option maxRecDepth 20000
theorem owns_apart {w w' : World} {base : Nat} {e : TypeId} {size : Nat} {a : Option Addr} {n c : Nat} {xs : List Value} {S : Nat → Prop} (h : w.ownsRow base e size (.slice a n c) n xs) (t : Turn S w w') (hS : ∀ g, a = some ⟨g, 0, none⟩ → ¬ S g) : w'.ownsRow base e size (.slice a n c) n xs :=
  owns_block0 h fun g hg => t.block g (h.lt g (by rw [hg]; rfl)).2 (hS g hg)
/-- block p says of each of twenty-four numbers whether it is in W -/
def SeenAt (w : World) (p : Nat) (W : List Int) : Prop := (∀ m : Nat, m < 24 → w.cell? ⟨p, m, none⟩ = some (.bool (decide ((m : Int) ∈ W)))) ∧ ∀ i, w.frozen? ⟨p, i, none⟩ = false
theorem SeenAt.lt {w : World} {p : Nat} {W : List Int} (h : SeenAt w p W) : p < w.heap.size := lt_of_cell (h.1 0 (by omega))
theorem SeenAt.block {w w' : World} {p : Nat} {W : List Int} (h : SeenAt w p W) (e : w'.heap[p]? = w.heap[p]?) : SeenAt w' p W :=
  ⟨fun m hm => (World.cell?_of_block (w := w) e).trans (h.1 m hm), fun i => (World.frozen?_of_block (w := w) e).trans (h.2 i)⟩
theorem seenAt_new (w : World) (e : TypeId) : SeenAt (w.alloc (.cells #[.bool false, .bool false, .bool false, .bool false, .bool false, .bool false, .bool false, .bool false, .bool false, .bool false, .bool false, .bool false, .bool false, .bool false, .bool false, .bool false, .bool false, .bool false, .bool false, .bool false, .bool false, .bool false, .bool false, .bool false] e)) w.heap.size [] := by
  refine ⟨fun m hm => ?_, fun i => frozen_alloc rfl⟩
  rw [cell_alloc rfl]
  have : m = 0 ∨ m = 1 ∨ m = 2 ∨ m = 3 ∨ m = 4 ∨ m = 5 ∨ m = 6 ∨ m = 7 ∨ m = 8 ∨ m = 9 ∨ m = 10 ∨ m = 11 ∨ m = 12 ∨ m = 13 ∨ m = 14 ∨ m = 15 ∨ m = 16 ∨ m = 17 ∨ m = 18 ∨ m = 19 ∨ m = 20 ∨ m = 21 ∨ m = 22 ∨ m = 23 := by omega
  rcases this with rfl | rfl | rfl | rfl | rfl | rfl | rfl | rfl | rfl | rfl | rfl | rfl | rfl | rfl | rfl | rfl | rfl | rfl | rfl | rfl | rfl | rfl | rfl | rfl <;> rfl
theorem SeenAt.set {w : World} {p m : Nat} {W V : List Int} (h : SeenAt w p W) (hm : m < 24) (hV : ∀ k, k ∈ V ↔ k ∈ W ∨ k = (m : Int)) : SeenAt (w.setCell ⟨p, m, none⟩ (.bool true)) p V := by
  refine ⟨fun j hj => ?_, fun i => by rw [fset_any]; exact h.2 i⟩
  by_cases e : j = m
  · subst e
    rw [cset_at (h.1 j hj), decide_eq_true ((hV _).2 (Or.inr rfl))]
  · rw [cset_ne (fun e2 => e e2.symm), h.1 j hj]
    congr 2
    apply decide_eq_decide.2
    rw [hV]
    exact ⟨Or.inl, fun x => x.elim id (fun x => by omega)⟩
theorem push_litS (a : AskP) (z : Bool) (L' : List AskP) (b : Nat) {L : List AskP} {S : Nat → Prop} (w : World) (h : QAt w b L S) (hg : Qu.Good L) (hz : Qu.pushed L a = z) (hL : Qu.push L a = L') :
    Calls Try.prog 11 #[.pointer (some ⟨b, 0, none⟩), .agg #[.int .i64 a.slot, .int .i64 a.query, .int .i64 a.shard, .int .i64 a.seq, .int .i64 a.epoch, .string a.text, .int .i64 a.k, .int .i64 a.batch, .bool a.first, .int .i64 a.ad, .string a.aw]] w fun e w' => e = .returned (.bool z) ∧ ∃ S', QAt w' b L' S' ∧ (∀ k, S' k → S k ∨ w.heap.size ≤ k) ∧ Turn S w w' := by
  subst hz hL
  exact qpush_any a b w h hg
/-- the three objects lie apart -/
structure First3 (w0 w : World) (b p : Nat) (av : Option Addr) (cv : Nat) (W : List Int) (L : List AskP) (S : Nat → Prop) : Prop where
  q : QAt w b L S
  g : Qu.Good L
  s : SeenAt w p W
  o : w.ownsRow w0.heap.size 3 1 (.slice av W.length cv) W.length (W.map (Value.int .i64))
  np : ¬ S p
  ng : ∀ g, av = some ⟨g, 0, none⟩ → ¬ S g ∧ g ≠ p
  lo : ∀ k, S k → w0.heap.size ≤ k
  bel : Below w0.heap.size w0 w
  pl : w0.heap.size ≤ p
theorem First3.turn {w0 w w' : World} {b p : Nat} {av : Option Addr} {cv : Nat} {W : List Int} {L L' : List AskP} {S S' : Nat → Prop} (h : First3 w0 w b p av cv W L S) (q : QAt w' b L' S') (g : Qu.Good L') (hs : ∀ k, S' k → S k ∨ w.heap.size ≤ k) (t : Turn S w w') : First3 w0 w' b p av cv W L' S' :=
  ⟨q, g, h.s.block (t.block p h.s.lt h.np), owns_apart h.o t (fun g hg => (h.ng g hg).1), fun hp => (hs p hp).elim h.np (fun x => by have := h.s.lt; omega),
    fun g hg => ⟨fun hp => (hs g hp).elim (h.ng g hg).1 (fun x => by have := (h.o.lt g (by rw [hg]; rfl)).2; omega), (h.ng g hg).2⟩,
    fun k hk => (hs k hk).elim (h.lo k) (fun x => Nat.le_trans h.bel.size x), h.bel.trans (t.below h.lo h.bel.size), h.pl⟩
theorem First3.more {w0 w w' : World} {b p : Nat} {av : Option Addr} {cv : Nat} {W : List Int} {L : List AskP} {S : Nat → Prop} (h : First3 w0 w b p av cv W L S) (hb : Below w.heap.size w w') : First3 w0 w' b p av cv W L S :=
  ⟨h.q.below hb, h.g, h.s.block (hb.block p h.s.lt), owns_below h.o hb, h.np, h.ng, h.lo, h.bel.trans (hb.mono h.bel.size), h.pl⟩
theorem First3.mark {w0 w : World} {b p m : Nat} {av : Option Addr} {cv : Nat} {W : List Int} {L : List AskP} {S : Nat → Prop} (h : First3 w0 w b p av cv W L S) (hm : m < 24) (hmem : (m : Int) ∈ W) : First3 w0 (w.setCell ⟨p, m, none⟩ (.bool true)) b p av cv W L S :=
  ⟨h.q.turn (Turn.setCell (F := fun k => k = p) rfl) (fun k hk e => h.np (e ▸ hk)), h.g, h.s.set hm (fun k => ⟨Or.inl, fun x => x.elim id (fun x => x ▸ hmem)⟩), owns_block0 h.o (fun g hg => Below.heap_setCell _ _ _ _ (h.ng g hg).2), h.np, h.ng, h.lo, h.bel.setCell (p := ⟨p, m, none⟩) h.pl _, h.pl⟩
theorem First3.far {w0 w w1 : World} {b p : Nat} {av : Option Addr} {cv : Nat} {W : List Int} {L : List AskP} {S : Nat → Prop} {o : Obj} (h : First3 w0 w b p av cv W L S) (hg : (w.alloc o).grownBy w1 (Value.slice av W.length cv).ownBlock) : SeenAt w1 p W := by
  have hne : ∀ k, (Value.slice av W.length cv).ownBlock = some k → k ≠ p := by
    intro k hk
    rcases h.o.2 with ⟨e, _⟩ | ⟨g', c', cur, e, _⟩
    · rw [e] at hk; cases hk
    · rw [e] at hk
      simp only [Value.ownBlock, Option.some.injEq] at hk
      subst hk
      simp only [Value.slice.injEq] at e
      exact (h.ng _ e.1).2
  refine h.s.block ((hg.block p (by have := h.s.lt; simp; omega) (fun e => hne p e.symm rfl)).trans (Below.heap_alloc _ _ _ h.s.lt))
theorem First3.grow {w0 w w1 : World} {b p m g cap H : Nat} {av : Option Addr} {cv : Nat} {W : List Int} {L : List AskP} {S : Nat → Prop} {o : Obj} (h : First3 w0 w b p av cv W L S) (hm : m < 24)
    (own : w1.ownsRow w0.heap.size 3 1 (.slice (some ⟨g, 0, none⟩) (W.length + 1) cap) (W.length + 1) (W.map (Value.int .i64) ++ [.int .i64 m])) (hg : (w.alloc o).grownBy w1 (Value.slice av W.length cv).ownBlock)
    (hat : (Value.slice av W.length cv).ownBlock = some g ∨ g = H) (hH : w.heap.size ≤ H) : First3 w0 (w1.setCell ⟨p, m, none⟩ (.bool true)) b p (some ⟨g, 0, none⟩) cap (W ++ [(m : Int)]) L S := by
  have ho : ∀ k, (Value.slice av W.length cv).ownBlock = some k → ¬ S k ∧ k ≠ p ∧ w0.heap.size ≤ k := by
    intro k hk
    have hlo := (h.o.lt k hk).1
    rcases h.o.2 with ⟨e, _⟩ | ⟨g', c', cur, e, _⟩
    · rw [e] at hk; cases hk
    · rw [e] at hk
      simp only [Value.ownBlock, Option.some.injEq] at hk
      subst hk
      simp only [Value.slice.injEq] at e
      exact ⟨(h.ng _ e.1).1, (h.ng _ e.1).2, hlo⟩
  have hgn : ¬ S g ∧ g ≠ p := by
    rcases hat with x | x
    · exact ⟨(ho g x).1, (ho g x).2.1⟩
    · subst x; exact ⟨fun hk => by have := h.q.lt _ hk; omega, by have := h.s.lt; omega⟩
  have hb : Below w.heap.size w (w.alloc o) := below_one _ _
  have tt : Turn (fun k => (Value.slice av W.length cv).ownBlock = some k) (w.alloc o) w1 := ⟨hg.os, hg.tape, hg.output, hg.size, fun k hk hn => hg.block k hk (fun e => hn e.symm)⟩
  have q1 : QAt w1 b L S := (h.q.below hb).turn tt (fun k hk e => (ho k e).1 hk)
  have bl : Below w0.heap.size w0 w1 := (h.bel.trans (hb.mono h.bel.size)).trans (tt.below (fun k hk => (ho k hk).2.2) (by have := h.bel.size; simp; omega))
  refine ⟨q1.turn (Turn.setCell (F := fun k => k = p) rfl) (fun k hk e => h.np (e ▸ hk)), h.g, (h.far hg).set hm (fun k => by simp), ?_, h.np, fun g' hg' => ?_, h.lo, bl.setCell (p := ⟨p, m, none⟩) h.pl _, h.pl⟩
  · rw [List.length_append, List.map_append]
    exact owns_block0 own (fun g' hg' => Below.heap_setCell _ _ _ _ (by injection hg' with e; injection e with e; subst e; exact hgn.2))
  · injection hg' with e; injection e with e; subst e
    exact hgn
theorem popK (s q d : Int) (b : Nat) {l : List AskP} {S : Nat → Prop} (w : World) (h : QAt w b (A4 s q d 1 :: l) S) (hg : Qu.Good (A4 s q d 1 :: l)) : Calls Try.prog 13 #[.pointer (some ⟨b, 0, none⟩)] w
    fun e w' => e = .returned (.tuple #[.agg #[.int .i64 s, .int .i64 q, .int .i64 d, .int .i64 1, .int .i64 0, .string ⟨#[]⟩, .int .i64 0, .int .i64 0, .bool false, .int .i64 0, .string ⟨#[]⟩], .bool true]) ∧ QAt w' b l S ∧ Turn S w w' := qPop_any b w h hg
theorem intq_info : (Try.prog.info? 3).map (fun i => (i.zero, i.size, i.bytes)) = some (some (.int .i64 0), 1, 8) := by kernel_rfl
set_option maxHeartbeats 3200000 in
set_option maxRecDepth 100000 in
theorem queueFirst_any (a : Option Addr) (n cap : Nat) (zs : List Int) (w : World) (h : HoldsI .i64 w a n zs) (hn : n ≤ 9223372036854775807) :
    Calls Try.prog 6 #[.slice a n cap] w fun e w' => e = .returned (.bool true) ∧ Below w.heap.size w w' := by
  have H := Lib.hid h
  obtain ⟨i0, hi, hz0, hz1, hz2⟩ := info_parts intq_info
  clear h
  by_cases h24 : 24 < n
  · have d2 : decide ((n : Int) > 24) = true := by simp; omega
    have d3 : decide (24 < n) = true := by simp; omega
    go_enter Try.func6, Try.ntmps6
    go_wp2_with fail
    refine (awake_any _).mono ?_
    rintro e w' ⟨rfl, hb3⟩
    go_wp2_with fail
    go_ret
    exact ⟨rfl, hb3⟩
  · have d2 : decide ((n : Int) > 24) = false := by simp; omega
    have d3 : decide (24 < n) = false := by simp; omega
    go_enter Try.func6, Try.ntmps6
    go_wp2_with fail
    refine (qNew_any _).mono ?_
    rintro e w1 ⟨b, S0, rfl, q1, s1, b1⟩
    have Q1 := Lib.hid q1; have S1 := Lib.hid s1; have B1 := Lib.hid b1
    have SN := Lib.hid (seenAt_new w1 47)
    clear q1 s1 b1
    go_upto_region 8 with fail
    have F1 := Lib.hid (show First3 w (w1.alloc (.cells #[.bool false, .bool false, .bool false, .bool false, .bool false, .bool false, .bool false, .bool false, .bool false, .bool false, .bool false, .bool false, .bool false, .bool false, .bool false, .bool false, .bool false, .bool false, .bool false, .bool false, .bool false, .bool false, .bool false, .bool false] 47)) b w1.heap.size none 0 [] [] S0 from
      ⟨Q1.out.below (below_one _ _), Qu.good_nil, SN.out, World.ownsRow_nil _ _ _ _, fun hk => by have := Q1.out.lt _ hk; omega, fun g hg => (by cases hg), S1.out, B1.out.trans ((below_one _ _).mono B1.out.size), B1.out.size⟩)
    generalize w1.alloc (.cells #[.bool false, .bool false, .bool false, .bool false, .bool false, .bool false, .bool false, .bool false, .bool false, .bool false, .bool false, .bool false, .bool false, .bool false, .bool false, .bool false, .bool false, .bool false, .bool false, .bool false, .bool false, .bool false, .bool false, .bool false] 47) = w2 at *
    obtain ⟨p, hp⟩ : ∃ p, w1.heap.size = p := ⟨_, rfl⟩
    rw [hp] at F1
    rw [hp]
    clear hp SN Q1 S1 B1
    go_wp2_with fail
    go_loopw [5, 6] (fun ov iv wr => ∃ (j : Nat) (W : List Int) (qf : Int → Int) (av : Option Addr) (cv : Nat), j ≤ n ∧ W.length ≤ j ∧ iv = .int .i64 j ∧ ov = .slice av W.length cv ∧ Hid (∃ S, First3 w wr b p av cv W (Qu.qmap W qf) S) ∧ Hid (Qu.Wok W qf j)) (fun _ iv _ => n - (intOf iv).toNat)
    case atStart => exact ⟨0, [], fun _ => 0, none, 0, by omega, by simp, rfl, rfl, Lib.hid ⟨S0, F1.out⟩, Lib.hid (Qu.wok_nil _ _)⟩
    case round =>
      obtain ⟨j, W, qf, av, cv, hj, hWl, rfl, rfl, hF, hW⟩ := hrel
      obtain ⟨S, hF3⟩ := hF.out
      have F3 := Lib.hid hF3
      clear hF hF3
      by_cases hlt : j < n
      · obtain ⟨ab, ao, rfl, hc⟩ := (H.out.below F3.out.bel).at (by omega)
        have e1 := hc j hlt
        obtain ⟨z, hz⟩ : ∃ z, zs.getD j 0 = z := ⟨_, rfl⟩
        rw [hz] at e1
        obtain ⟨m, hm, hm24⟩ : ∃ m : Nat, lowV z 24 = (m : Int) ∧ m < 24 := by
          have := low_bd z 24 (by omega)
          exact ⟨(lowV z 24).toNat, by omega, by omega⟩
        have CW := Lib.hid (fun w => show Calls Try.prog 21 #[.int .i64 z, .int .i64 24] w fun e w' => e = .returned (.int .i64 (m : Int)) ∧ w = w' from hm ▸ low_any z 24 (by omega) (by omega) w)
        clear hc hz hm
        go_wp2_with fail
        refine (CW.out _).mono ?_
        rintro e w' ⟨rfl, rfl⟩
        clear CW
        have hmr : (0 : Int) ≤ (m : Int) ∧ (m : Int) < 24 := by omega
        have hpush : ∃ z, Qu.pushed (Qu.qmap W qf) (A4 ((m : Int) / 6) j ((m : Int) % 6) 1) = true ∧ Qu.push (Qu.qmap W qf) (A4 ((m : Int) / 6) j ((m : Int) % 6) 1) = z := by
          by_cases hmem : (m : Int) ∈ W
          · exact ⟨_, (Qu.push_seen hW.out hmem).1, rfl⟩
          · exact ⟨_, (Qu.push_fresh hW.out hmr hmem).1, rfl⟩
        obtain ⟨L', hp1, hp2⟩ := hpush
        have P1 := Lib.hid hp1; have P2 := Lib.hid hp2; have HMR := Lib.hid hmr
        clear hp1 hp2 hmr
        go_wp2_with fail
        refine (push_litS (A4 ((m : Int) / 6) j ((m : Int) % 6) 1) true L' b _ F3.out.q F3.out.g P1.out P2.out).mono ?_
        rintro e w4 ⟨rfl, S', q4, hs4, t4⟩
        have F4 := Lib.hid (F3.out.turn q4 (P2.out ▸ Qu.push_good F3.out.g _) hs4 t4)
        clear q4 hs4 t4 F3
        have c0 := F4.out.s.1 m hm24
        have f0 := F4.out.s.2 m
        have x1 : (0 : Int) ≤ (m : Int) := by omega
        have x2 : (m : Int) < 24 := by omega
        have lw := F4.out.bel.size
        by_cases hmem : (m : Int) ∈ W
        · rw [decide_eq_true hmem] at c0
          have R := Qu.push_seen hW.out hmem
          have e := R.2.1
          rw [P2.out] at e
          subst e
          have W5 := Lib.hid R.2.2
          have F5 := Lib.hid (F4.out.mark hm24 hmem)
          clear R hmem
          go_wp2_with fail
          go_roundw
          case rel => exact ⟨j + 1, W, Qu.qupd qf m j, av, cv, by omega, by omega, by go_num, rfl, Lib.hid ⟨S', F5.out⟩, by simpa using W5⟩
          case measure => simp [intOf] <;> omega
        · rw [decide_eq_false hmem] at c0
          have R := Qu.push_fresh hW.out HMR.out hmem
          have e := R.2.1
          rw [P2.out] at e
          subst e
          have W5 := Lib.hid R.2.2
          clear R hmem
          go_wp2_with (at_builtin; refine wpList_append_lies _ rfl (.tmp 44) (.tmp 46) 46 rfl w.heap.size 3 i0 _ 1 8 Try.underlying46 hi hz0 hz1 hz2 rfl (by omega) (.slice av W.length cv) W.length (W.map (Value.int .i64)) (by rfl) (F4.out.o.alloc _) ⟨w4.heap.size, 0, none⟩ 1 1 [.int .i64 m] (by rfl) (by rfl) (World.news_of_block (cs := #[.int .i64 m]) (t := 3) (fr := (0, 0)) (heap_alloc_new w4 _)) (by simp [Value.oneCell']) (by omega) (by unfold maxLen; omega) (by omega) (by simp <;> omega) (w4.heap.size + 1) (by simp) ?_; intro g3 c3 w5 hown5 hgrow5 hat5 hlt5; obtain ⟨y0, y1⟩ := F4.out.far hgrow5; replace y0 := y0 m hm24; replace y1 := y1 m)
          have F6 := Lib.hid (F4.out.grow hm24 hown5 hgrow5 hat5 (by simp))
          clear hown5 hgrow5 hat5 F4
          go_roundw
          case rel => exact ⟨j + 1, W ++ [(m : Int)], Qu.qupd qf m j, some ⟨g3, 0, none⟩, c3, by omega, by simpa using hWl, by go_num, by simp, Lib.hid ⟨S', F6.out⟩, by simpa using W5⟩
          case measure => simp [intOf] <;> omega
      · obtain rfl : j = n := by omega
        obtain ⟨r, hr⟩ : ∃ r, W.length = r := ⟨_, rfl⟩
        have HR := Lib.hid hr
        rw [hr] at hWl
        rw [hr]
        have O0 := Lib.hid (show r ≤ 24 by omega)
        clear hr hlt
        go_wp2_with fail
        go_loopw [8] (fun iv wr => ∃ i : Nat, i ≤ r ∧ iv = .int .i64 i ∧ Hid (∃ S, First3 w wr b p av cv W ((Qu.qmap W qf).drop i) S)) (fun iv _ => r - (intOf iv).toNat)
        case atStart => exact ⟨0, by omega, rfl, Lib.hid ⟨S, F3.out⟩⟩
        case round =>
          obtain ⟨i, hi', rfl, hF⟩ := hrel
          obtain ⟨S2, hF2⟩ := hF.out
          have F7 := Lib.hid hF2
          clear hF hF2
          by_cases hlt : i < r
          · obtain ⟨k, hk⟩ : ∃ k, W.getD i 0 = k := ⟨_, rfl⟩
            have hiW : i < W.length := by rw [HR.out]; exact hlt
            have hkm : k ∈ W := by rw [← hk, List.getD_eq_getElem?_getD, List.getElem?_eq_getElem hiW]; simp
            have hkr := hW.out.rng k hkm
            have hdrop : (Qu.qmap W qf).drop i = A4 (k / 6) (qf k) (k % 6) 1 :: (Qu.qmap W qf).drop (i + 1) := by
              have e1 : (Qu.qmap W qf).length = W.length := by simp [Qu.qmap]
              rw [List.drop_eq_getElem_cons (by omega)]
              congr 1
              have e2 : W[i] = k := by rw [← hk, List.getD_eq_getElem?_getD, List.getElem?_eq_getElem hiW]; rfl
              simp only [Qu.qmap, List.getElem_map, e2]; rfl
            have hq := F7.out.q
            have hg := F7.out.g
            rw [hdrop] at hq hg
            have HD := Lib.hid hdrop
            have CP := Lib.hid (popK (k / 6) (qf k) (k % 6) b _ hq hg)
            have HG := Lib.hid hg
            obtain ⟨g, rfl⟩ : ∃ g, av = some ⟨g, 0, none⟩ := by
              obtain ⟨g, cap', hv⟩ := Joins.ownsRow_form F7.out.o (by omega)
              simp only [Value.slice.injEq] at hv
              exact ⟨g, hv.1⟩
            have KW := Lib.hid (show (W.map (Value.int .i64))[i]? = some (.int .i64 k) from by rw [List.getElem?_map, List.getElem?_eq_getElem hiW]; simp only [Option.map_some]; rw [← hk, List.getD_eq_getElem?_getD, List.getElem?_eq_getElem hiW]; rfl)
            have HIW := Lib.hid hiW
            obtain ⟨hk0, hk1⟩ := hkr
            clear hk hkm hq hg hdrop hiW
            go_wp2_with fail
            refine CP.out.mono ?_
            rintro e w5 ⟨rfl, q5, t5⟩
            have hF8 : First3 w w5 b p (some ⟨g, 0, none⟩) cv W ((Qu.qmap W qf).drop (i + 1)) S2 := by
              have hF7 := F7.out
              exact hF7.turn q5 (by have := Qu.tail_good HG.out; simpa using this) (fun k hk => Or.inl hk) t5
            have F8 := Lib.hid (hF8.more (below_one w5 (.cells #[.int .i64 (k / 6), .int .i64 (qf k), .int .i64 (k % 6), .int .i64 1, .int .i64 0, .string ⟨#[]⟩, .int .i64 0, .int .i64 0, .bool false, .int .i64 0, .string ⟨#[]⟩] 34)))
            have A8 := Lib.hid (askIn_new w5 (A4 (k / 6) (qf k) (k % 6) 1) w5.heap.size 34 (0, 0) rfl)
            clear q5 t5 CP hF8
            go_upto_region 21 with fail
            have hA := A8.out
            have hF9 := F8.out
            obtain ⟨a0, -, a2, -⟩ := hA
            have e0 := (hF9.o.cellAt i (by have := HIW.out; omega)).trans KW.out
            have s1 : IntKind.i64.wrap (k / 6 * 6) = k / 6 * 6 := IntWalk.i64_in _ (by omega)
            have s2 : IntKind.i64.wrap (k / 6 * 6 + k % 6) = k := by rw [IntWalk.i64_in _ (by omega)]; omega
            have s3 : (k != k) = false := by simp
            have s4 : k / 6 * 6 + k % 6 = k := by omega
            have x1 : (0 : Int) ≤ (i : Int) := by omega
            have x2 : (i : Int) < (r : Int) := by omega
            have H10 := Lib.hid (fun w' hb => hF9.more (w' := w') hb)
            simp only [A4] at a0 a2
            clear F8 A8 hF9
            go_quiet (fail)
            go_wp2_with fail
            go_roundw
            case rel => exact ⟨i + 1, by omega, by go_num, Lib.hid ⟨S2, H10.out _ (below_drewN _ _)⟩⟩
            case measure => simp [intOf] <;> omega
          · obtain rfl : i = r := by omega
            have hdrop : (Qu.qmap W qf).drop i = [] := List.drop_of_length_le (by rw [Qu.qmap, List.length_map, HR.out]; exact Nat.le_refl _)
            have hq := F7.out.q
            rw [hdrop] at hq
            have CP := Lib.hid (qPop_empty b _ hq)
            have BB := Lib.hid F7.out.bel
            clear hq hdrop F7
            go_wp2_with fail
            refine CP.out.mono ?_
            rintro e w5 ⟨rfl, hb⟩
            have B5 := Lib.hid (BB.out.trans (hb.mono BB.out.size))
            clear hb CP
            go_wp2_with fail
            refine (awake_any _).mono ?_
            rintro e w6 ⟨rfl, hb⟩
            have B6 := Lib.hid ((B5.out.trans ((below_one w5 _).mono B5.out.size)).trans (hb.mono (Nat.le_trans B5.out.size (below_one w5 _).size)))
            clear hb
            go_wp2_with fail
            go_ret
            exact ⟨rfl, B6.out⟩
open Go.ChangeShapes Go.WideShapes Go.ChangeAt in
theorem queueFirst_walk {H : Type} {enc : TypeId × Value → H} (W : World) (base : Nat) (v0 : Value) (d0 : DataW H) (p0 : List MemPlace)
    (h0 : DataW.Trod enc Try.prog W 0 (fun _ => true) true 46 v0 d0 p0) (o0 : Value.okWide Try.prog W .any base 46 v0) :
    Calls Try.prog 6 #[v0] W fun e w' => e = .returned (.bool true) ∧ RowKit.Below W.heap.size W w' := by
  obtain ⟨a, n, cap, zs, rfl, hh, _, h1, h2, _⟩ := open_ints_arg Try.underlying46 Try.underlying3 (by kernel_rfl) o0 h0
  exact queueFirst_any a n cap zs W hh (by unfold maxLen at h2; omega)
end Go.Proofs.Ythcfpohgjgbhpaa
