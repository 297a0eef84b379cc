/- texts joined -/
import Derived.WalkKit
import Derived.ProofKit
import Derived.OpenShut
import Derived.Lib.SmallJoins
import Derived.Lib.Hide
import Derived.Laws.RangeAny
import Derived.Lib.DecodeN
import Derived.Test.YtmddnklafplikaaDoorChecked
import Derived.WalkLawsBesides
import Derived.Outline
import Derived.Shelf.Strings.Builder1
import Derived.Shelf.Strings.BuilderK
import Derived.Lib.ConvBytes
import Derived.Laws.Rows
import Derived.Lib.ItoaNum
import Derived.Lib.Split
import Derived.Lib.Join
import Derived.Shelf.Small.Strs
import Derived.Lib.OthersKept
import Derived.WalkSmall
import Derived.WalkSpells
import Derived.Deep.QuietTactic
import Derived.BigQuiet
import Derived.Deep.DeepCutAuto
import Derived.OwnWalk
import Derived.Laws.AppendOwnNone
import Derived.Sort.Walk0
import Derived.SliceStrings
import Derived.Laws.IdiomStrings
import Derived.Deep.RegionLaw
import Derived.Deep.AppendLies
import Derived.BigGuard
import Derived.Deep.Slices
import Derived.Shelf.Strings.Split
import Derived.Shelf.Strings.Prefix
import Derived.Lib.SplitLaws
import Derived.BigRegion
import Derived.Deep.RegionHeld3
import Derived.Deep.MidRow
import Derived.Shelf.Vars
import Derived.ShutString
import Derived.ChangeMaps5
import Derived.Test.YtmddnklafplikaaDoorPkQA
namespace Go.Proofs.YtmddnklafplikaaDoor
open Go.RowKit
set_option linter.unusedVariables false
set_option maxRecDepth 20000
theorem ten_ints {ns : List Int} (h : ns.length = 10) : ∃ a0 a1 a2 a3 a4 a5 a6 a7 a8 a9, ns = [a0, a1, a2, a3, a4, a5, a6, a7, a8, a9] := by
  match ns, h with
  | [a0, a1, a2, a3, a4, a5, a6, a7, a8, a9], _ => exact ⟨a0, a1, a2, a3, a4, a5, a6, a7, a8, a9, rfl⟩
theorem numsP_some {w : World} {ns : List Int} {k : Nat} {e : Ending} {w' : World} (h : NumsP w (some ns) e w') (hk : ns.length = k) : ∃ a c, e = .returned (.tuple #[.slice a k c, .bool true]) ∧ HoldsI .i64 w' a k ns ∧ k ≤ c ∧ Below w.heap.size w w' ∧ ∀ g o, a = some ⟨g, o, none⟩ → w.heap.size ≤ g := by
  subst hk
  obtain ⟨hb, a, c, h1, h2, h3, h4⟩ := h
  exact ⟨a, c, h1, h2, h3, hb, h4⟩
theorem numsP_none {w : World} {e : Ending} {w' : World} (h : NumsP w none e w') : e = .returned (.tuple #[.slice none 0 0, .bool false]) ∧ Below w.heap.size w w' := ⟨h.2, h.1⟩
theorem numsK_len {r : List (List UInt8)} {k : Nat} {ns : List Int} (h : numsK r k = some ns) : ns.length = k := by
  unfold numsK at h
  split at h
  · rename_i h1; exact (numsO_len h).trans h1
  · cases h
theorem drew_at {w : World} {b : Nat} {x : Option Obj} (h : w.heap[b]? = x) : w.drew.heap[b]? = x := h
theorem drew_grown {w w' : World} {r : Option Nat} (h : w.grownBy w' r) : w.grownBy w'.drew r := ⟨h.os, h.tape, h.output, h.size, h.block⟩
theorem grown_trans {w w1 w2 : World} {r : Option Nat} (h : w.grownBy w1 r) (h' : w1.grownBy w2 r) : w.grownBy w2 r := ⟨h'.os.trans h.os, h'.tape.trans h.tape, h'.output.trans h.output, Nat.le_trans h.size h'.size, fun k hk hne => (h'.block k (Nat.lt_of_lt_of_le hk h.size) hne).trans (h.block k hk hne)⟩
theorem one_set {w : World} {b : Nat} {cs : Array Value} {e : TypeId} {fz : Nat × Nat} (h : w.heap[b]? = some (.cells cs e fz)) (i : Nat) (v : Value) : (w.setCell ⟨b, i, none⟩ v).heap[b]? = some (.cells (cs.setIfInBounds i v) e fz) ∧ w.grownBy (w.setCell ⟨b, i, none⟩ v) (some b) := ⟨Joins.block_setCell h v, grown_setS w b i v⟩
theorem five_set {w : World} {b : Nat} {cs : Array Value} {e : TypeId} {fz : Nat × Nat} (h : w.heap[b]? = some (.cells cs e fz)) (i0 i1 i2 i3 i4 : Nat) (v0 v1 v2 v3 v4 : Value) :
    (((((w.setCell ⟨b, i0, none⟩ v0).setCell ⟨b, i1, none⟩ v1).setCell ⟨b, i2, none⟩ v2).setCell ⟨b, i3, none⟩ v3).setCell ⟨b, i4, none⟩ v4).drew.heap[b]? = some (.cells (((((cs.setIfInBounds i0 v0).setIfInBounds i1 v1).setIfInBounds i2 v2).setIfInBounds i3 v3).setIfInBounds i4 v4) e fz) ∧ w.grownBy (((((w.setCell ⟨b, i0, none⟩ v0).setCell ⟨b, i1, none⟩ v1).setCell ⟨b, i2, none⟩ v2).setCell ⟨b, i3, none⟩ v3).setCell ⟨b, i4, none⟩ v4).drew (some b) := by
  have h1 := one_set h i0 v0
  have h2 := one_set h1.1 i1 v1
  have h3 := one_set h2.1 i2 v2
  have h4 := one_set h3.1 i3 v3
  have h5 := one_set h4.1 i4 v4
  exact ⟨drew_at h5.1, drew_grown (grown_trans (grown_trans (grown_trans (grown_trans h1.2 h2.2) h3.2) h4.2) h5.2)⟩
theorem KP.grown {R b : Nat} {w w' : World} (hg : w.grownBy w' (some b)) (hR : R ≤ w.heap.size) (hb : b < R) : KP R b w w' :=
  ⟨(Below.refl b w).grown hg (by omega) (fun k hk => by injection hk with hk; omega), fun k h1 h2 => hg.block k (by omega) (fun e => by injection e with e; omega)⟩
theorem ParAt.nums {w w' : World} {R b : Nat} {wa ka ea : Option Addr} {wc kc ec : Nat} {st : PS} {ns : List Int} (h : ParAt w R b wa ka ea wc kc ec st) (hg : w.grownBy w' (some b)) (hb : w'.heap[b]? = some (.cells (pcells wa ka ea wc kc ec { st with ns := ns }) 77 (0, 0))) (hl : ns.length = 10) : ParAt w' R b wa ka ea wc kc ec { st with ns := ns } :=
  ⟨hb, h.rw.kept hg (Or.inr fun e => own_blkS h.rw h.blk (by decide) e.symm), h.rk.kept hg (Or.inr fun e => own_blkS h.rk h.blk (by decide) e.symm), h.re.kept hg (Or.inr fun e => own_blkS h.re h.blk (by decide) e.symm), h.bR, hl, h.cap⟩
set_option maxRecDepth 100000 in
set_option maxHeartbeats 3200000 in
theorem set_any (R b : Nat) (st : PS) (a : Option Addr) (n cp : Nat) (ts : List Tx) (w : World) (hp : PA w R b st) (hR : R ≤ w.heap.size) (hh : HoldsT w a n ts) (hn : n ≤ 9223372036854775807) (hz : ∀ t ∈ ts, t.size ≤ 300000) :
    Calls Tryd.prog 55 #[.pointer (some ⟨b, 0, none⟩), .slice a n cp] w (LineP R b w (setF st (bytesL ts))) := by
  obtain ⟨o, ho⟩ : ∃ o, numsK (bytesL ts) 10 = o := ⟨_, rfl⟩
  have CN := Lib.hid (numbers_any a n cp 10 ts w hh hn (fun t ht => by have := hz t ht; omega) (by omega))
  rw [ho] at CN
  have hF : setF st (bytesL ts) = o.map fun ns => { st with ns := ns } := by
    unfold setF; rw [ho]; cases o <;> rfl
  have HF := Lib.hid hF
  have HP := Lib.hid hp
  have hbR : b < R := by obtain ⟨_, _, _, _, _, _, h⟩ := hp; exact h.bR
  have hlen : ∀ ns, o = some ns → ns.length = 10 := fun ns e => numsK_len (ho.trans e)
  clear hh hz hp ho hF
  cases o with
  | none =>
    go_enter Tryd.func55, Tryd.ntmps55
    go_wp2_with fail
    refine CN.out.mono ?_
    intro e w4 h4
    obtain ⟨rfl, hb4⟩ := numsP_none h4
    go_wp2_with fail
    go_ret
    exact LineP.no HF.out (KP.below hb4 hR hbR) rfl
  | some ns =>
    have hl := hlen ns rfl
    clear hlen
    go_enter Tryd.func55, Tryd.ntmps55
    go_wp2_with fail
    refine CN.out.mono ?_
    intro e w4 h4
    obtain ⟨xa, xc, rfl, hx, hxc, hb4, hxg⟩ := numsP_some h4 hl
    obtain ⟨xb, xo, rfl, hxx⟩ := hx.at (by omega)
    have HXB := Lib.hid (show xb ≠ b from by have := hxg xb xo rfl; omega)
    obtain ⟨a0, a1, a2, a3, a4, a5, a6, a7, a8, a9, rfl⟩ := ten_ints hl
    have y0 : w4.cell? ⟨xb, xo, none⟩ = some (.int .i64 a0) := hxx 0 (by omega)
    have y1 : w4.cell? ⟨xb, xo + 1, none⟩ = some (.int .i64 a1) := hxx 1 (by omega)
    have y2 : w4.cell? ⟨xb, xo + 2, none⟩ = some (.int .i64 a2) := hxx 2 (by omega)
    have y3 : w4.cell? ⟨xb, xo + 3, none⟩ = some (.int .i64 a3) := hxx 3 (by omega)
    have y4 : w4.cell? ⟨xb, xo + 4, none⟩ = some (.int .i64 a4) := hxx 4 (by omega)
    obtain ⟨wa, ka, ea, wc, kc, ec, hq⟩ := HP.out.below hb4
    have HQ := Lib.hid hq
    have c2 : w4.cell? ⟨b, 2, none⟩ = some (.int .i64 (st.ns.getD 0 0)) := by rw [Lib.cell_of_heap hq.blk]; rfl
    have c3 : w4.cell? ⟨b, 3, none⟩ = some (.int .i64 (st.ns.getD 1 0)) := by rw [Lib.cell_of_heap hq.blk]; rfl
    have c4 : w4.cell? ⟨b, 4, none⟩ = some (.int .i64 (st.ns.getD 2 0)) := by rw [Lib.cell_of_heap hq.blk]; rfl
    have c5 : w4.cell? ⟨b, 5, none⟩ = some (.int .i64 (st.ns.getD 3 0)) := by rw [Lib.cell_of_heap hq.blk]; rfl
    have c6 : w4.cell? ⟨b, 6, none⟩ = some (.int .i64 (st.ns.getD 4 0)) := by rw [Lib.cell_of_heap hq.blk]; rfl
    have ff : ∀ i, w4.frozen? ⟨b, i, none⟩ = false := fun i => Lib.frozen_of_heap hq.blk i
    have f2 := ff 2; have f3 := ff 3; have f4 := ff 4; have f5 := ff 5; have f6 := ff 6
    have B4 := Lib.hid hb4
    have hy9 := Lib.hid hxx
    clear hb4 hxx hx hq ff h4 hxg
    go_upto_region 5 with fail
    have hR4 : R ≤ w4.heap.size := Nat.le_trans hR B4.out.size
    have K4 := Lib.hid (KP.below B4.out hR hbR)
    have hs5 := five_set HQ.out.blk 2 3 4 5 6 (.int .i64 a0) (.int .i64 a1) (.int .i64 a2) (.int .i64 a3) (.int .i64 a4)
    have G5 := Lib.hid hs5.2
    have P5 := Lib.hid (HQ.out.nums (ns := [a0, a1, a2, a3, a4, st.ns.getD 5 0, st.ns.getD 6 0, st.ns.getD 7 0, st.ns.getD 8 0, st.ns.getD 9 0]) hs5.2 (by rw [hs5.1]; rfl) rfl)
    clear hs5
    go_region
    generalize (((((w4.setCell ⟨b, 2, none⟩ (.int .i64 a0)).setCell ⟨b, 3, none⟩ (.int .i64 a1)).setCell ⟨b, 4, none⟩ (.int .i64 a2)).setCell ⟨b, 5, none⟩ (.int .i64 a3)).setCell ⟨b, 6, none⟩ (.int .i64 a4)).drew = w5 at *
    have K5 := Lib.hid (K4.out.trans (KP.grown G5.out hR4 hbR))
    have hR5 : R ≤ w5.heap.size := Nat.le_trans hR4 G5.out.size
    have hcx : ∀ i, i < 10 → w5.cell? ⟨xb, xo + i, none⟩ = some (.int .i64 (([a0, a1, a2, a3, a4, a5, a6, a7, a8, a9] : List Int).getD i 0)) := fun i hi => by
      rw [World.cell?_of_block (w := w4) (by exact G5.out.block xb (lt_of_cell y0) (fun e => HXB.out (by injection e)))]
      exact hy9.out i hi
    have y5 : w5.cell? ⟨xb, xo + 5, none⟩ = some (.int .i64 a5) := hcx 5 (by omega)
    have y6 : w5.cell? ⟨xb, xo + 6, none⟩ = some (.int .i64 a6) := hcx 6 (by omega)
    have y7 : w5.cell? ⟨xb, xo + 7, none⟩ = some (.int .i64 a7) := hcx 7 (by omega)
    have y8 : w5.cell? ⟨xb, xo + 8, none⟩ = some (.int .i64 a8) := hcx 8 (by omega)
    have y9 : w5.cell? ⟨xb, xo + 9, none⟩ = some (.int .i64 a9) := hcx 9 (by omega)
    have hs6 := five_set P5.out.blk 7 8 9 10 11 (.int .i64 a5) (.int .i64 a6) (.int .i64 a7) (.int .i64 a8) (.int .i64 a9)
    have c7 : w5.cell? ⟨b, 7, none⟩ = some (.int .i64 (st.ns.getD 5 0)) := by rw [Lib.cell_of_heap P5.out.blk]; rfl
    have c8 : w5.cell? ⟨b, 8, none⟩ = some (.int .i64 (st.ns.getD 6 0)) := by rw [Lib.cell_of_heap P5.out.blk]; rfl
    have c9 : w5.cell? ⟨b, 9, none⟩ = some (.int .i64 (st.ns.getD 7 0)) := by rw [Lib.cell_of_heap P5.out.blk]; rfl
    have c10 : w5.cell? ⟨b, 10, none⟩ = some (.int .i64 (st.ns.getD 8 0)) := by rw [Lib.cell_of_heap P5.out.blk]; rfl
    have c11 : w5.cell? ⟨b, 11, none⟩ = some (.int .i64 (st.ns.getD 9 0)) := by rw [Lib.cell_of_heap P5.out.blk]; rfl
    have ff : ∀ i, w5.frozen? ⟨b, i, none⟩ = false := fun i => Lib.frozen_of_heap P5.out.blk i
    have f7 := ff 7; have f8 := ff 8; have f9 := ff 9; have f10 := ff 10; have f11 := ff 11
    have G6 := Lib.hid hs6.2
    have P6 := Lib.hid (P5.out.nums (ns := [a0, a1, a2, a3, a4, a5, a6, a7, a8, a9]) hs6.2 (by rw [hs6.1]; rfl) rfl)
    clear hs6 hcx ff y0 y1 y2 y3 y4 c2 c3 c4 c5 c6 f2 f3 f4 f5 f6
    go_upto_region 6 with fail
    go_region
    generalize (((((w5.setCell ⟨b, 7, none⟩ (.int .i64 a5)).setCell ⟨b, 8, none⟩ (.int .i64 a6)).setCell ⟨b, 9, none⟩ (.int .i64 a7)).setCell ⟨b, 10, none⟩ (.int .i64 a8)).setCell ⟨b, 11, none⟩ (.int .i64 a9)).drew = w6 at *
    have K6 := Lib.hid (K5.out.trans (KP.grown G6.out hR5 hbR))
    go_wp2_with fail
    go_ret
    exact LineP.yes HF.out K6.out rfl ⟨_, _, _, _, _, _, P6.out⟩
end Go.Proofs.YtmddnklafplikaaDoor
namespace Go.Proofs.YtmddnklafplikaaDoor
open Go.RowKit
set_option linter.unusedVariables false
set_option maxRecDepth 20000
theorem ParAt.evt {w : World} {R b : Nat} {wa ka ea : Option Addr} {wc kc ec : Nat} {st : PS} (h : ParAt w R b wa ka ea wc kc ec st) (hR : R ≤ w.heap.size) {o : Obj} {v : Value} {w3 : World} {t : EvP}
    (hown : w3.ownsRow R 50 7 v (st.es.length + 1) (evsV st.es ++ cellsEv t)) (hg : (w.alloc o).grownBy w3 (Value.slice ea st.es.length ec).ownBlock) (hc : st.es.length + 1 ≤ 1048576) :
    PA (w3.setCell ⟨b, 12, none⟩ v) R b { st with es := st.es ++ [t] } ∧ KP R b w (w3.setCell ⟨b, 12, none⟩ v) := by
  have hlt := (Array.getElem?_eq_some_iff.1 h.blk).1
  have hblk : w3.heap[b]? = some (.cells (pcells wa ka ea wc kc ec st) 77 (0, 0)) := by
    rw [hg.block b (by simp; omega) (own_blkS h.re h.blk (by decide)), Below.heap_alloc _ _ _ hlt]; exact h.blk
  obtain ⟨a, c, rfl⟩ := slice_form hown (by omega)
  have rw3 := (h.rw.alloc o).kept hg (own_otherS h.rw h.re (by decide))
  have rk3 := (h.rk.alloc o).kept hg (own_otherS h.rk h.re (by decide))
  have gs := grown_setS w3 b 12 (.slice a (st.es.length + 1) c)
  have hl : (st.es ++ [t]).length = st.es.length + 1 := by simp
  refine ⟨⟨wa, ka, a, wc, kc, c, ?_, ?_, ?_, ?_, h.bR, h.len, by rw [hl]; exact ⟨h.cap.1, h.cap.2.1, hc⟩⟩, (kp_grown hR h.bR hg (fun k hk => (h.re.lt k hk).1)).trans (KP.set w3 12 _)⟩
  · rw [Joins.block_setCell hblk]
    unfold pcells
    rw [hl]
    rfl
  · exact rw3.kept gs (Or.inr fun e => own_blkS rw3 hblk (by decide) e.symm)
  · exact rk3.kept gs (Or.inr fun e => own_blkS rk3 hblk (by decide) e.symm)
  · rw [hl, evsV_snoc]
    exact hown.kept gs (Or.inr fun e => own_blkS hown hblk (by decide) e.symm)
theorem ParAt.atEv {w : World} {R b : Nat} {wa ka ea : Option Addr} {wc kc ec : Nat} {st : PS} (h : ParAt w R b wa ka ea wc kc ec st) : w.cell? ⟨b, 12, none⟩ = some (.slice ea st.es.length ec) := by
  rw [Lib.cell_of_heap h.blk]; rfl
theorem ParAt.keepEv {w : World} {R b : Nat} {wa ka ea : Option Addr} {wc kc ec : Nat} {st : PS} (h : ParAt w R b wa ka ea wc kc ec st) (o : Obj) (w' : World) (hg : (w.alloc o).grownBy w' (Value.slice ea st.es.length ec).ownBlock) : w'.cell? ⟨b, 12, none⟩ = some (.slice ea st.es.length ec) ∧ w'.frozen? ⟨b, 12, none⟩ = false := by
  have hlt := (Array.getElem?_eq_some_iff.1 h.blk).1
  have hblk : w'.heap[b]? = some (.cells (pcells wa ka ea wc kc ec st) 77 (0, 0)) := by
    rw [hg.block b (by simp; omega) (own_blkS h.re h.blk (by decide)), Below.heap_alloc _ _ _ hlt]; exact h.blk
  exact ⟨by rw [Lib.cell_of_heap hblk]; rfl, Lib.frozen_of_heap hblk 12⟩
theorem ev_info : (Tryd.prog.info? 50).map (fun i => (i.zero, i.size, i.bytes)) = some (some (.agg #[.int .i64 0, .int .i64 0, .int .i64 0, .int .i64 0, .string { data := #[] }, .int .i64 0, .int .i64 0]), 7, 64) := by kernel_rfl
theorem four_ints {ns : List Int} (h : ns.length = 4) : ∃ a0 a1 a2 a3, ns = [a0, a1, a2, a3] := by
  match ns, h with
  | [a0, a1, a2, a3], _ => exact ⟨a0, a1, a2, a3, rfl⟩
set_option maxRecDepth 100000 in
set_option maxHeartbeats 1600000 in
theorem event_any (R b : Nat) (st : PS) (a : Option Addr) (n cp : Nat) (ts : List Tx) (w : World) (hp : PA w R b st) (hR : R ≤ w.heap.size) (hh : HoldsT w a n ts) (hn : n ≤ 9223372036854775807) (hz : ∀ t ∈ ts, t.size ≤ 300000) (hc : st.es.length + 1 ≤ 1048576) :
    Calls Tryd.prog 56 #[.pointer (some ⟨b, 0, none⟩), .slice a n cp] w (LineP R b w (evF st (bytesL ts))) := by
  obtain ⟨o, ho⟩ : ∃ o, numsK (bytesL ts) 4 = o := ⟨_, rfl⟩
  have CN := Lib.hid (numbers_any a n cp 4 ts w hh hn (fun t ht => by have := hz t ht; omega) (by omega))
  rw [ho] at CN
  have hF : evF st (bytesL ts) = o.bind fun ns => if ns.getD 0 0 = 1 then none else some { st with es := st.es ++ [⟨ns.getD 0 0, ns.getD 1 0, ns.getD 2 0, ns.getD 3 0, ⟨#[]⟩, 0, 0⟩] } := by
    unfold evF; rw [ho]; cases o <;> rfl
  have HF := Lib.hid hF
  have HP := Lib.hid hp
  have hbR : b < R := by obtain ⟨_, _, _, _, _, _, h⟩ := hp; exact h.bR
  have hlen : ∀ ns, o = some ns → ns.length = 4 := fun ns e => numsK_len (ho.trans e)
  clear hh hz hp ho hF
  cases o with
  | none =>
    go_enter Tryd.func56, Tryd.ntmps56
    go_wp2_with fail
    refine CN.out.mono ?_
    intro e w4 h4
    obtain ⟨rfl, hb4⟩ := numsP_none h4
    go_wp2_with fail
    go_ret
    exact LineP.no HF.out (KP.below hb4 hR hbR) rfl
  | some ns =>
    have hl := hlen ns rfl
    clear hlen
    obtain ⟨a0, a1, a2, a3, rfl⟩ := four_ints hl
    have hF2 : evF st (bytesL ts) = if a0 = 1 then none else some { st with es := st.es ++ [⟨a0, a1, a2, a3, ⟨#[]⟩, 0, 0⟩] } := HF.out
    by_cases h1 : a0 = 1
    · subst h1
      rw [if_pos rfl] at hF2
      have HF2 := Lib.hid hF2
      clear hF2 HF
      go_enter Tryd.func56, Tryd.ntmps56
      go_wp2_with fail
      refine CN.out.mono ?_
      intro e w4 h4
      obtain ⟨xa, xc, rfl, hx, hxc, hb4, hxg⟩ := numsP_some h4 hl
      obtain ⟨xb, xo, rfl, hxx⟩ := hx.at (by omega)
      have y0 : w4.cell? ⟨xb, xo, none⟩ = some (.int .i64 1) := hxx 0 (by omega)
      have B4 := Lib.hid hb4
      clear hb4 hxx hx hxg h4
      go_wp2_with fail
      go_ret
      exact LineP.no HF2.out (KP.below B4.out hR hbR) rfl
    · rw [if_neg h1] at hF2
      have HF2 := Lib.hid hF2
      have e1 : (a0 == 1) = false := by simpa using h1
      obtain ⟨i0, hii, hz0, hz1, hz2⟩ := info_parts ev_info
      clear hF2 HF h1
      go_enter Tryd.func56, Tryd.ntmps56
      go_wp2_with fail
      refine CN.out.mono ?_
      intro e w4 h4
      obtain ⟨xa, xc, rfl, hx, hxc, hb4, hxg⟩ := numsP_some h4 hl
      obtain ⟨xb, xo, rfl, hxx⟩ := hx.at (by omega)
      have y0 : w4.cell? ⟨xb, xo, none⟩ = some (.int .i64 a0) := hxx 0 (by omega)
      obtain ⟨wa, ka, ea, wc, kc, ec, hq0⟩ := HP.out
      have hq := hq0.below hb4
      have HQ := Lib.hid (hq.below (Below.refl w4.heap.size w4).drew)
      have hR4 : R ≤ w4.heap.size := Nat.le_trans hR hb4.size
      have hxl := lt_of_cell y0
      have HXB := Lib.hid (show xb ≠ b from by have := hxg xb xo rfl; omega)
      have HXE := Lib.hid (show some xb ≠ (Value.slice ea st.es.length ec).ownBlock from fun e => by
        have h1 := (hq0.re.lt xb e.symm).2
        have h2 := hxg xb xo rfl
        omega)
      have K4 := Lib.hid ((KP.below hb4 hR hbR).trans (KP.below (Below.refl w4.heap.size w4).drew hR4 hbR))
      have KX := Lib.hid (fun (w' : World) (h : w'.heap[xb]? = w4.heap[xb]?) => (show w'.cell? ⟨xb, xo, none⟩ = some (.int .i64 a0) ∧ w'.cell? ⟨xb, xo + 1, none⟩ = some (.int .i64 a1) ∧ w'.cell? ⟨xb, xo + 2, none⟩ = some (.int .i64 a2) ∧ w'.cell? ⟨xb, xo + 3, none⟩ = some (.int .i64 a3) from
        ⟨(World.cell?_of_block (w := w4) h).trans (hxx 0 (by omega)), (World.cell?_of_block (w := w4) h).trans (hxx 1 (by omega)), (World.cell?_of_block (w := w4) h).trans (hxx 2 (by omega)), (World.cell?_of_block (w := w4) h).trans (hxx 3 (by omega))⟩))
      have n1 : w4.drew.cell? ⟨b, 12, none⟩ = some (.slice ea st.es.length ec) := HQ.out.atEv
      have n5 : (w4.drew.alloc (.cells #[.int .i64 a0, .int .i64 a1, .int .i64 a2, .int .i64 a3, .string { data := #[] }, .int .i64 0, .int .i64 0] 50)).cell? ⟨b, 12, none⟩ = some (.slice ea st.es.length ec) := (HQ.out.below (below_one w4.drew _)).atEv
      have AX := Lib.hid (show ∀ o, (w4.drew.alloc o).heap[xb]? = w4.heap[xb]? from fun o => Below.heap_alloc w4.drew o xb hxl)
      have GX := Lib.hid (show ∀ o w', (w4.drew.alloc o).grownBy w' (Value.slice ea st.es.length ec).ownBlock → w'.heap[xb]? = w4.heap[xb]? from fun o w' hg => (hg.block xb (by simp; exact Nat.lt_succ_of_lt hxl) HXE.out).trans (AX.out o))
      clear hb4 hxx hx hxg h4 hq hq0
      go_upto_region 4 with fail
      clear y0
      have hS0 := KX.out w4.drew rfl
      have hRX : R ≤ w4.drew.heap.size := hR4
      refine wp_region_held_drew (S := (fun w' => w'.cell? ⟨xb, xo, none⟩ = some (.int .i64 a0) ∧ w'.cell? ⟨xb, xo + 1, none⟩ = some (.int .i64 a1) ∧ w'.cell? ⟨xb, xo + 2, none⟩ = some (.int .i64 a2) ∧ w'.cell? ⟨xb, xo + 3, none⟩ = some (.int .i64 a3))) (by kernel_rfl) hS0 (fun hHeld0 => ?_)
      clear hS0 hR4
      generalize w4.drew = X0 at *
      refine wpAnyH_take (i := 0) (oi := { dst := some 20, op := Op.move (Operand.tmp 0), type := 94, pos := "parse.go:77", after := #[], guard := none }) (v := ?vz1) rfl (by kernel_rfl) (by kernel_rfl) (by kernel_rfl) (fun _ _ _ h => h) (Or.inl ⟨by rfl, ?hyz1⟩) (by assumption) ?restz1
      case hyz1 => (intro w hSw; (try dsimp only at hSw); go_simp; (try with_reducible rfl))
      try simp only [Act.put, List.setIfInBounds_toArray, List.set_cons_zero, List.set_cons_succ]
      refine wpAnyH_take (i := 1) (oi := { dst := some 21, op := Op.move (Operand.tmp 0), type := 94, pos := "parse.go:77", after := #[], guard := none }) (v := ?vz2) rfl (by kernel_rfl) (by kernel_rfl) (by kernel_rfl) (fun _ _ _ h => h) (Or.inl ⟨by rfl, ?hyz2⟩) (by assumption) ?restz2
      case hyz2 => (intro w hSw; (try dsimp only at hSw); go_simp; (try with_reducible rfl))
      try simp only [Act.put, List.setIfInBounds_toArray, List.set_cons_zero, List.set_cons_succ]
      refine wpAnyH_take (i := 2) (oi := { dst := some 22, op := Op.nilCheck (Operand.tmp 21), type := 0, pos := "parse.go:77", after := #[{ on := 1, ground := Ground.data }], guard := none }) (v := ?vz3) rfl (by kernel_rfl) (by kernel_rfl) (by kernel_rfl) (fun _ _ _ h => h) (Or.inl ⟨by rfl, ?hyz3⟩) (by assumption) ?restz3
      case hyz3 => (intro w hSw; (try dsimp only at hSw); go_simp; (try with_reducible rfl))
      try simp only [Act.put, List.setIfInBounds_toArray, List.set_cons_zero, List.set_cons_succ]
      refine wpAnyH_take (i := 3) (oi := { dst := some 23, op := Op.fieldAddr 77 (Operand.tmp 22) 1, type := 0, pos := "parse.go:77", after := #[{ on := 2, ground := Ground.data }], guard := none }) (v := ?vz4) rfl (by kernel_rfl) (by kernel_rfl) (by kernel_rfl) (fun _ _ _ h => h) (Or.inl ⟨by rfl, ?hyz4⟩) (by assumption) ?restz4
      case hyz4 => (intro w hSw; (try dsimp only at hSw); go_simp; (try with_reducible rfl))
      try simp only [Act.put, List.setIfInBounds_toArray, List.set_cons_zero, List.set_cons_succ]
      refine wpAnyH_take (i := 5) (oi := { dst := some 25, op := Op.move (Operand.tmp 5), type := 73, pos := "parse.go:77", after := #[], guard := none }) (v := ?vz5) rfl (by kernel_rfl) (by kernel_rfl) (by kernel_rfl) (fun _ _ _ h => h) (Or.inl ⟨by rfl, ?hyz5⟩) (by assumption) ?restz5
      case hyz5 => (intro w hSw; (try dsimp only at hSw); go_simp; (try with_reducible rfl))
      try simp only [Act.put, List.setIfInBounds_toArray, List.set_cons_zero, List.set_cons_succ]
      refine wpAnyH_take (i := 6) (oi := { dst := some 26, op := Op.indexAddr 73 (Operand.tmp 25) (Operand.const (Value.int IntKind.i64 0)), type := 0, pos := "parse.go:77", after := #[{ on := 5, ground := Ground.data }], guard := none }) (v := ?vz6) rfl (by kernel_rfl) (by kernel_rfl) (by kernel_rfl) (fun _ _ _ h => h) (Or.inl ⟨by rfl, ?hyz6⟩) (by assumption) ?restz6
      case hyz6 => (intro w hSw; (try dsimp only at hSw); go_simp; (try with_reducible rfl))
      try simp only [Act.put, List.setIfInBounds_toArray, List.set_cons_zero, List.set_cons_succ]
      refine wpAnyH_take (i := 7) (oi := { dst := some 27, op := Op.load 3 (Operand.tmp 26), type := 3, pos := "parse.go:77", after := #[{ on := 6, ground := Ground.data }], guard := none }) (v := ?vz7) rfl (by kernel_rfl) (by kernel_rfl) (by kernel_rfl) (fun _ _ _ h => h) (Or.inl ⟨by rfl, ?hyz7⟩) (by assumption) ?restz7
      case hyz7 => (intro w hSw; (try dsimp only at hSw); go_simp; (try with_reducible rfl))
      try simp only [Act.put, List.setIfInBounds_toArray, List.set_cons_zero, List.set_cons_succ]
      refine wpAnyH_take (i := 8) (oi := { dst := some 28, op := Op.move (Operand.tmp 5), type := 73, pos := "parse.go:77", after := #[], guard := none }) (v := ?vz8) rfl (by kernel_rfl) (by kernel_rfl) (by kernel_rfl) (fun _ _ _ h => h) (Or.inl ⟨by rfl, ?hyz8⟩) (by assumption) ?restz8
      case hyz8 => (intro w hSw; (try dsimp only at hSw); go_simp; (try with_reducible rfl))
      try simp only [Act.put, List.setIfInBounds_toArray, List.set_cons_zero, List.set_cons_succ]
      refine wpAnyH_take (i := 9) (oi := { dst := some 29, op := Op.indexAddr 73 (Operand.tmp 28) (Operand.const (Value.int IntKind.i64 1)), type := 0, pos := "parse.go:77", after := #[{ on := 8, ground := Ground.data }], guard := none }) (v := ?vz9) rfl (by kernel_rfl) (by kernel_rfl) (by kernel_rfl) (fun _ _ _ h => h) (Or.inl ⟨by rfl, ?hyz9⟩) (by assumption) ?restz9
      case hyz9 => (intro w hSw; (try dsimp only at hSw); go_simp; (try with_reducible rfl))
      try simp only [Act.put, List.setIfInBounds_toArray, List.set_cons_zero, List.set_cons_succ]
      refine wpAnyH_take (i := 10) (oi := { dst := some 30, op := Op.load 3 (Operand.tmp 29), type := 3, pos := "parse.go:77", after := #[{ on := 9, ground := Ground.data }], guard := none }) (v := ?vz10) rfl (by kernel_rfl) (by kernel_rfl) (by kernel_rfl) (fun _ _ _ h => h) (Or.inl ⟨by rfl, ?hyz10⟩) (by assumption) ?restz10
      case hyz10 => (intro w hSw; (try dsimp only at hSw); go_simp; (try with_reducible rfl))
      try simp only [Act.put, List.setIfInBounds_toArray, List.set_cons_zero, List.set_cons_succ]
      refine wpAnyH_take (i := 11) (oi := { dst := some 31, op := Op.move (Operand.tmp 5), type := 73, pos := "parse.go:77", after := #[], guard := none }) (v := ?vz11) rfl (by kernel_rfl) (by kernel_rfl) (by kernel_rfl) (fun _ _ _ h => h) (Or.inl ⟨by rfl, ?hyz11⟩) (by assumption) ?restz11
      case hyz11 => (intro w hSw; (try dsimp only at hSw); go_simp; (try with_reducible rfl))
      try simp only [Act.put, List.setIfInBounds_toArray, List.set_cons_zero, List.set_cons_succ]
      refine wpAnyH_take (i := 12) (oi := { dst := some 32, op := Op.indexAddr 73 (Operand.tmp 31) (Operand.const (Value.int IntKind.i64 2)), type := 0, pos := "parse.go:77", after := #[{ on := 11, ground := Ground.data }], guard := none }) (v := ?vz12) rfl (by kernel_rfl) (by kernel_rfl) (by kernel_rfl) (fun _ _ _ h => h) (Or.inl ⟨by rfl, ?hyz12⟩) (by assumption) ?restz12
      case hyz12 => (intro w hSw; (try dsimp only at hSw); go_simp; (try with_reducible rfl))
      try simp only [Act.put, List.setIfInBounds_toArray, List.set_cons_zero, List.set_cons_succ]
      refine wpAnyH_take (i := 13) (oi := { dst := some 33, op := Op.load 3 (Operand.tmp 32), type := 3, pos := "parse.go:77", after := #[{ on := 12, ground := Ground.data }], guard := none }) (v := ?vz13) rfl (by kernel_rfl) (by kernel_rfl) (by kernel_rfl) (fun _ _ _ h => h) (Or.inl ⟨by rfl, ?hyz13⟩) (by assumption) ?restz13
      case hyz13 => (intro w hSw; (try dsimp only at hSw); go_simp; (try with_reducible rfl))
      try simp only [Act.put, List.setIfInBounds_toArray, List.set_cons_zero, List.set_cons_succ]
      refine wpAnyH_take (i := 14) (oi := { dst := some 34, op := Op.move (Operand.tmp 5), type := 73, pos := "parse.go:77", after := #[], guard := none }) (v := ?vz14) rfl (by kernel_rfl) (by kernel_rfl) (by kernel_rfl) (fun _ _ _ h => h) (Or.inl ⟨by rfl, ?hyz14⟩) (by assumption) ?restz14
      case hyz14 => (intro w hSw; (try dsimp only at hSw); go_simp; (try with_reducible rfl))
      try simp only [Act.put, List.setIfInBounds_toArray, List.set_cons_zero, List.set_cons_succ]
      refine wpAnyH_take (i := 15) (oi := { dst := some 35, op := Op.indexAddr 73 (Operand.tmp 34) (Operand.const (Value.int IntKind.i64 3)), type := 0, pos := "parse.go:77", after := #[{ on := 14, ground := Ground.data }], guard := none }) (v := ?vz15) rfl (by kernel_rfl) (by kernel_rfl) (by kernel_rfl) (fun _ _ _ h => h) (Or.inl ⟨by rfl, ?hyz15⟩) (by assumption) ?restz15
      case hyz15 => (intro w hSw; (try dsimp only at hSw); go_simp; (try with_reducible rfl))
      try simp only [Act.put, List.setIfInBounds_toArray, List.set_cons_zero, List.set_cons_succ]
      refine wpAnyH_take (i := 16) (oi := { dst := some 36, op := Op.load 3 (Operand.tmp 35), type := 3, pos := "parse.go:77", after := #[{ on := 15, ground := Ground.data }], guard := none }) (v := ?vz16) rfl (by kernel_rfl) (by kernel_rfl) (by kernel_rfl) (fun _ _ _ h => h) (Or.inl ⟨by rfl, ?hyz16⟩) (by assumption) ?restz16
      case hyz16 => (intro w hSw; (try dsimp only at hSw); go_simp; (try with_reducible rfl))
      try simp only [Act.put, List.setIfInBounds_toArray, List.set_cons_zero, List.set_cons_succ]
      refine wpAnyH_take (i := 17) (oi := { dst := some 37, op := Op.build 50 #[(0, Operand.tmp 27), (1, Operand.tmp 30), (2, Operand.tmp 33), (3, Operand.tmp 36)], type := 50, pos := "parse.go:77", after := #[{ on := 7, ground := Ground.data }, { on := 10, ground := Ground.data }, { on := 13, ground := Ground.data }, { on := 16, ground := Ground.data }], guard := none }) (v := ?vz17) rfl (by kernel_rfl) (by kernel_rfl) (by kernel_rfl) (fun _ _ _ h => h) (Or.inl ⟨by rfl, ?hyz17⟩) (by assumption) ?restz17
      case hyz17 => (intro w hSw; (try dsimp only at hSw); go_simp; (try with_reducible rfl))
      try simp only [Act.put, List.setIfInBounds_toArray, List.set_cons_zero, List.set_cons_succ]
      refine wpAnyH_ready (rs := [4, 18]) (by kernel_rfl) (by simp) ?_
      refine AllReadyH.cons (o := { dst := some 24, op := Op.load 31 (Operand.tmp 23), type := 31, pos := "parse.go:77", after := #[{ on := 3, ground := Ground.data }], guard := none }) rfl (fun K hK => ?_) (AllReadyH.cons (o := { dst := some 38, op := Op.buildSlice 31 1 #[(0, Operand.tmp 37)], type := 31, pos := "parse.go:77", after := #[{ on := 17, ground := Ground.data }], guard := none }) rfl (fun K hK => ?_) AllReadyH.nil)
      · go_simp
        refine hK.out _ _ hHeld0 (fun hHeld1 => ?_)
        clear hK K hHeld0
        try simp only [Act.put, List.setIfInBounds_toArray, List.set_cons_zero, List.set_cons_succ]
        refine wpAnyH_ready (rs := [18]) (by kernel_rfl) (by simp) ?_
        refine AllReadyH.cons (o := { dst := some 38, op := Op.buildSlice 31 1 #[(0, Operand.tmp 37)], type := 31, pos := "parse.go:77", after := #[{ on := 17, ground := Ground.data }], guard := none }) rfl (fun K hK => ?_) AllReadyH.nil
        · go_simp
          refine hK.out _ _ (KX.out _ (AX.out _)) (fun hHeld2 => ?_)
          clear hK K hHeld1
          try simp only [Act.put, List.setIfInBounds_toArray, List.set_cons_zero, List.set_cons_succ]
          refine wpAnyH_ready (rs := [19]) (by kernel_rfl) (by simp) ?_
          refine AllReadyH.cons (o := { dst := some 39, op := Op.call { callee := Callee.builtin Builtin.append, args := #[Operand.tmp 24, Operand.tmp 38], argTypes := #[31, 31] }, type := 31, pos := "parse.go:77", after := #[{ on := 4, ground := Ground.data }, { on := 18, ground := Ground.data }], guard := none }) rfl (fun K hK => ?_) AllReadyH.nil
          · refine step_append_lies _ (by rfl) _ _ _ (by rfl) R 50 i0 _ 7 64 Tryd.underlying31 hii hz0 hz1 hz2 rfl (by omega) (.slice ea st.es.length ec) st.es.length (evsV st.es) (by rfl) (HQ.out.re.alloc _) ⟨X0.heap.size, 0, none⟩ 1 1 [.int .i64 a0, .int .i64 a1, .int .i64 a2, .int .i64 a3, .string { data := #[] }, .int .i64 0, .int .i64 0] (by rfl) (by rfl) (World.news_of_block (cs := #[.int .i64 a0, .int .i64 a1, .int .i64 a2, .int .i64 a3, .string { data := #[] }, .int .i64 0, .int .i64 0]) (t := 50) (fr := (0, 0)) (heap_alloc_new X0 _)) (by simp [Value.oneCell']) (by omega) (by unfold maxLen; omega) (by omega) (by simp; omega) (X0.heap.size + 1) (by simp) ?_
            intro g3 c3 w9 hown9 hgrow9 hat9 hlt9
            obtain ⟨x0, x1⟩ := HQ.out.keepEv _ _ hgrow9
            have x2 := GX.out _ _ hgrow9
            refine hK.out _ _ (KX.out _ x2) (fun hHeld3 => ?_)
            clear hK K hHeld2
            try simp only [Act.put, List.setIfInBounds_toArray, List.set_cons_zero, List.set_cons_succ]
            refine wpAnyH_take (i := 20) (oi := { dst := some 40, op := Op.nilCheck (Operand.tmp 20), type := 0, pos := "parse.go:77", after := #[{ on := 0, ground := Ground.data }, { on := 0, ground := Ground.phase }, { on := 1, ground := Ground.phase }, { on := 2, ground := Ground.phase }, { on := 3, ground := Ground.phase }, { on := 4, ground := Ground.phase }, { on := 5, ground := Ground.phase }, { on := 6, ground := Ground.phase }, { on := 7, ground := Ground.phase }, { on := 8, ground := Ground.phase }, { on := 9, ground := Ground.phase }, { on := 10, ground := Ground.phase }, { on := 11, ground := Ground.phase }, { on := 12, ground := Ground.phase }, { on := 13, ground := Ground.phase }, { on := 14, ground := Ground.phase }, { on := 15, ground := Ground.phase }, { on := 16, ground := Ground.phase }, { on := 17, ground := Ground.phase }, { on := 18, ground := Ground.phase }, { on := 19, ground := Ground.phase }], guard := none }) (v := ?vz18) rfl (by kernel_rfl) (by kernel_rfl) (by kernel_rfl) (fun _ _ _ h => h) (Or.inl ⟨by rfl, ?hyz18⟩) (by assumption) ?restz18
            case hyz18 => (intro w hSw; (try dsimp only at hSw); go_simp; (try with_reducible rfl))
            try simp only [Act.put, List.setIfInBounds_toArray, List.set_cons_zero, List.set_cons_succ]
            refine wpAnyH_take (i := 21) (oi := { dst := some 41, op := Op.fieldAddr 77 (Operand.tmp 40) 1, type := 0, pos := "parse.go:77", after := #[{ on := 20, ground := Ground.data }, { on := 0, ground := Ground.phase }, { on := 1, ground := Ground.phase }, { on := 2, ground := Ground.phase }, { on := 3, ground := Ground.phase }, { on := 4, ground := Ground.phase }, { on := 5, ground := Ground.phase }, { on := 6, ground := Ground.phase }, { on := 7, ground := Ground.phase }, { on := 8, ground := Ground.phase }, { on := 9, ground := Ground.phase }, { on := 10, ground := Ground.phase }, { on := 11, ground := Ground.phase }, { on := 12, ground := Ground.phase }, { on := 13, ground := Ground.phase }, { on := 14, ground := Ground.phase }, { on := 15, ground := Ground.phase }, { on := 16, ground := Ground.phase }, { on := 17, ground := Ground.phase }, { on := 18, ground := Ground.phase }, { on := 19, ground := Ground.phase }], guard := none }) (v := ?vz19) rfl (by kernel_rfl) (by kernel_rfl) (by kernel_rfl) (fun _ _ _ h => h) (Or.inl ⟨by rfl, ?hyz19⟩) (by assumption) ?restz19
            case hyz19 => (intro w hSw; (try dsimp only at hSw); go_simp; (try with_reducible rfl))
            try simp only [Act.put, List.setIfInBounds_toArray, List.set_cons_zero, List.set_cons_succ]
            refine wpAnyH_ready (rs := [22]) (by kernel_rfl) (by simp) ?_
            refine AllReadyH.cons (o := { dst := none, op := Op.store 31 (Operand.tmp 41) (Operand.tmp 39), type := 0, pos := "parse.go:77", after := #[{ on := 21, ground := Ground.data }, { on := 19, ground := Ground.data }, { on := 19, ground := Ground.chain }, { on := 0, ground := Ground.phase }, { on := 1, ground := Ground.phase }, { on := 2, ground := Ground.phase }, { on := 3, ground := Ground.phase }, { on := 4, ground := Ground.phase }, { on := 5, ground := Ground.phase }, { on := 6, ground := Ground.phase }, { on := 7, ground := Ground.phase }, { on := 8, ground := Ground.phase }, { on := 9, ground := Ground.phase }, { on := 10, ground := Ground.phase }, { on := 11, ground := Ground.phase }, { on := 12, ground := Ground.phase }, { on := 13, ground := Ground.phase }, { on := 14, ground := Ground.phase }, { on := 15, ground := Ground.phase }, { on := 16, ground := Ground.phase }, { on := 17, ground := Ground.phase }, { on := 18, ground := Ground.phase }, { on := 19, ground := Ground.phase }], guard := none }) rfl (fun K hK => ?_) AllReadyH.nil
            · go_simp
              refine hK.out _ _ (KX.out _ ((Below.heap_setCell _ ⟨b, 12, none⟩ _ _ HXB.out).trans x2)) (fun hHeldE => ?_)
              clear hK K hHeld3
              try simp only [Act.put]
              refine wpAnyH_done (by kernel_rfl) ?_ _
              have P3 := Lib.hid (HQ.out.evt (t := ⟨a0, a1, a2, a3, ⟨#[]⟩, 0, 0⟩) hRX hown9 hgrow9 hc)
              clear hown9 hgrow9 hat9 hlt9 x0 x1 x2 n1 n5
              go_wp2_with fail
              go_ret
              exact LineP.yes HF2.out (K4.out.trans P3.out.2) rfl P3.out.1
      · go_simp
        refine hK.out _ _ (KX.out _ (AX.out _)) (fun hHeld1 => ?_)
        clear hK K hHeld0
        try simp only [Act.put, List.setIfInBounds_toArray, List.set_cons_zero, List.set_cons_succ]
        refine wpAnyH_ready (rs := [4]) (by kernel_rfl) (by simp) ?_
        refine AllReadyH.cons (o := { dst := some 24, op := Op.load 31 (Operand.tmp 23), type := 31, pos := "parse.go:77", after := #[{ on := 3, ground := Ground.data }], guard := none }) rfl (fun K hK => ?_) AllReadyH.nil
        · go_simp
          refine hK.out _ _ hHeld1 (fun hHeld2 => ?_)
          clear hK K hHeld1
          try simp only [Act.put, List.setIfInBounds_toArray, List.set_cons_zero, List.set_cons_succ]
          refine wpAnyH_ready (rs := [19]) (by kernel_rfl) (by simp) ?_
          refine AllReadyH.cons (o := { dst := some 39, op := Op.call { callee := Callee.builtin Builtin.append, args := #[Operand.tmp 24, Operand.tmp 38], argTypes := #[31, 31] }, type := 31, pos := "parse.go:77", after := #[{ on := 4, ground := Ground.data }, { on := 18, ground := Ground.data }], guard := none }) rfl (fun K hK => ?_) AllReadyH.nil
          · refine step_append_lies _ (by rfl) _ _ _ (by rfl) R 50 i0 _ 7 64 Tryd.underlying31 hii hz0 hz1 hz2 rfl (by omega) (.slice ea st.es.length ec) st.es.length (evsV st.es) (by rfl) (HQ.out.re.alloc _) ⟨X0.heap.size, 0, none⟩ 1 1 [.int .i64 a0, .int .i64 a1, .int .i64 a2, .int .i64 a3, .string { data := #[] }, .int .i64 0, .int .i64 0] (by rfl) (by rfl) (World.news_of_block (cs := #[.int .i64 a0, .int .i64 a1, .int .i64 a2, .int .i64 a3, .string { data := #[] }, .int .i64 0, .int .i64 0]) (t := 50) (fr := (0, 0)) (heap_alloc_new X0 _)) (by simp [Value.oneCell']) (by omega) (by unfold maxLen; omega) (by omega) (by simp; omega) (X0.heap.size + 1) (by simp) ?_
            intro g3 c3 w9 hown9 hgrow9 hat9 hlt9
            obtain ⟨x0, x1⟩ := HQ.out.keepEv _ _ hgrow9
            have x2 := GX.out _ _ hgrow9
            refine hK.out _ _ (KX.out _ x2) (fun hHeld3 => ?_)
            clear hK K hHeld2
            try simp only [Act.put, List.setIfInBounds_toArray, List.set_cons_zero, List.set_cons_succ]
            refine wpAnyH_take (i := 20) (oi := { dst := some 40, op := Op.nilCheck (Operand.tmp 20), type := 0, pos := "parse.go:77", after := #[{ on := 0, ground := Ground.data }, { on := 0, ground := Ground.phase }, { on := 1, ground := Ground.phase }, { on := 2, ground := Ground.phase }, { on := 3, ground := Ground.phase }, { on := 4, ground := Ground.phase }, { on := 5, ground := Ground.phase }, { on := 6, ground := Ground.phase }, { on := 7, ground := Ground.phase }, { on := 8, ground := Ground.phase }, { on := 9, ground := Ground.phase }, { on := 10, ground := Ground.phase }, { on := 11, ground := Ground.phase }, { on := 12, ground := Ground.phase }, { on := 13, ground := Ground.phase }, { on := 14, ground := Ground.phase }, { on := 15, ground := Ground.phase }, { on := 16, ground := Ground.phase }, { on := 17, ground := Ground.phase }, { on := 18, ground := Ground.phase }, { on := 19, ground := Ground.phase }], guard := none }) (v := ?vz20) rfl (by kernel_rfl) (by kernel_rfl) (by kernel_rfl) (fun _ _ _ h => h) (Or.inl ⟨by rfl, ?hyz20⟩) (by assumption) ?restz20
            case hyz20 => (intro w hSw; (try dsimp only at hSw); go_simp; (try with_reducible rfl))
            try simp only [Act.put, List.setIfInBounds_toArray, List.set_cons_zero, List.set_cons_succ]
            refine wpAnyH_take (i := 21) (oi := { dst := some 41, op := Op.fieldAddr 77 (Operand.tmp 40) 1, type := 0, pos := "parse.go:77", after := #[{ on := 20, ground := Ground.data }, { on := 0, ground := Ground.phase }, { on := 1, ground := Ground.phase }, { on := 2, ground := Ground.phase }, { on := 3, ground := Ground.phase }, { on := 4, ground := Ground.phase }, { on := 5, ground := Ground.phase }, { on := 6, ground := Ground.phase }, { on := 7, ground := Ground.phase }, { on := 8, ground := Ground.phase }, { on := 9, ground := Ground.phase }, { on := 10, ground := Ground.phase }, { on := 11, ground := Ground.phase }, { on := 12, ground := Ground.phase }, { on := 13, ground := Ground.phase }, { on := 14, ground := Ground.phase }, { on := 15, ground := Ground.phase }, { on := 16, ground := Ground.phase }, { on := 17, ground := Ground.phase }, { on := 18, ground := Ground.phase }, { on := 19, ground := Ground.phase }], guard := none }) (v := ?vz21) rfl (by kernel_rfl) (by kernel_rfl) (by kernel_rfl) (fun _ _ _ h => h) (Or.inl ⟨by rfl, ?hyz21⟩) (by assumption) ?restz21
            case hyz21 => (intro w hSw; (try dsimp only at hSw); go_simp; (try with_reducible rfl))
            try simp only [Act.put, List.setIfInBounds_toArray, List.set_cons_zero, List.set_cons_succ]
            refine wpAnyH_ready (rs := [22]) (by kernel_rfl) (by simp) ?_
            refine AllReadyH.cons (o := { dst := none, op := Op.store 31 (Operand.tmp 41) (Operand.tmp 39), type := 0, pos := "parse.go:77", after := #[{ on := 21, ground := Ground.data }, { on := 19, ground := Ground.data }, { on := 19, ground := Ground.chain }, { on := 0, ground := Ground.phase }, { on := 1, ground := Ground.phase }, { on := 2, ground := Ground.phase }, { on := 3, ground := Ground.phase }, { on := 4, ground := Ground.phase }, { on := 5, ground := Ground.phase }, { on := 6, ground := Ground.phase }, { on := 7, ground := Ground.phase }, { on := 8, ground := Ground.phase }, { on := 9, ground := Ground.phase }, { on := 10, ground := Ground.phase }, { on := 11, ground := Ground.phase }, { on := 12, ground := Ground.phase }, { on := 13, ground := Ground.phase }, { on := 14, ground := Ground.phase }, { on := 15, ground := Ground.phase }, { on := 16, ground := Ground.phase }, { on := 17, ground := Ground.phase }, { on := 18, ground := Ground.phase }, { on := 19, ground := Ground.phase }], guard := none }) rfl (fun K hK => ?_) AllReadyH.nil
            · go_simp
              refine hK.out _ _ (KX.out _ ((Below.heap_setCell _ ⟨b, 12, none⟩ _ _ HXB.out).trans x2)) (fun hHeldE => ?_)
              clear hK K hHeld3
              try simp only [Act.put]
              refine wpAnyH_done (by kernel_rfl) ?_ _
              have P3 := Lib.hid (HQ.out.evt (t := ⟨a0, a1, a2, a3, ⟨#[]⟩, 0, 0⟩) hRX hown9 hgrow9 hc)
              clear hown9 hgrow9 hat9 hlt9 x0 x1 x2 n1 n5
              go_wp2_with fail
              go_ret
              exact LineP.yes HF2.out (K4.out.trans P3.out.2) rfl P3.out.1
end Go.Proofs.YtmddnklafplikaaDoor
namespace Go.Proofs.YtmddnklafplikaaDoor
open Go.RowKit
set_option linter.unusedVariables false
set_option maxRecDepth 20000
theorem askF_three (st : PS) (t u v : Tx) : askF st (bytesL [t, u, v]) = (unqO t.data.toList).bind fun x => (numsK (bytesL [u, v]) 2).map fun ns => { st with es := st.es ++ [⟨1, 0, 0, 0, x, ns.getD 0 0, ns.getD 1 0⟩] } := by
  unfold askF bytesL
  simp only [List.map_cons, List.map_nil]
  cases unqO t.data.toList <;> cases numsK [u.data.toList, v.data.toList] 2 <;> rfl
theorem two_ints {ns : List Int} (h : ns.length = 2) : ∃ a0 a1, ns = [a0, a1] := by
  match ns, h with
  | [a0, a1], _ => exact ⟨a0, a1, rfl⟩
set_option maxRecDepth 100000 in
set_option maxHeartbeats 1600000 in
theorem ask_any (R b : Nat) (st : PS) (a : Option Addr) (n cp : Nat) (ts : List Tx) (w : World) (hp : PA w R b st) (hR : R ≤ w.heap.size) (hh : HoldsT w a n ts) (hn : n ≤ cp) (hz : ∀ t ∈ ts, t.size ≤ 300000) (hc : st.es.length + 1 ≤ 1048576) (hcp : cp ≤ 9223372036854775807) :
    Calls Tryd.prog 57 #[.pointer (some ⟨b, 0, none⟩), .slice a n cp] w (LineP R b w (askF st (bytesL ts))) := by
  have hl := hh.len
  by_cases hn1 : n = 3
  case neg =>
    have e1 : askF st (bytesL ts) = none := by
      unfold askF
      split
      · rename_i x y z hx
        have := congrArg List.length hx
        simp [bytesL] at this; omega
      · rfl
    have d1 : ((n : Int) != 3) = true := by simp; omega
    have E1 := Lib.hid e1
    clear hh hl hz e1 hp hn1
    go_enter Tryd.func57, Tryd.ntmps57
    go_wp2_with fail
    go_ret
    exact LineP.no E1.out (KP.refl _ _ _) rfl
  subst hn1
  obtain ⟨t, u, v, rfl⟩ := three_texts hl
  obtain ⟨bb, oo, rfl, hcc⟩ := hh.at (by omega)
  have x0 : w.cell? ⟨bb, oo, none⟩ = some (.string t) := hcc 0 (by omega)
  have ht := hz t (by simp)
  have hh2 : HoldsT w (some ⟨bb, oo + 1, none⟩) 2 [u, v] := hh.drop 1 (by omega)
  obtain ⟨i0, hii, hz0, hz1, hz2⟩ := info_parts ev_info
  obtain ⟨o1, ho1⟩ : ∃ o, unqO t.data.toList = o := ⟨_, rfl⟩
  obtain ⟨o2, ho2⟩ : ∃ o, numsK (bytesL [u, v]) 2 = o := ⟨_, rfl⟩
  have CU := Lib.hid (fun w => unquote_any t w ht)
  have CN := Lib.hid (fun w' (hb : Below w.heap.size w w') => numbers_any (some ⟨bb, oo + 1, none⟩) 2 (cp - 1) 2 [u, v] w' (hh2.below hb) (by omega) (fun x hx => by have := hz x (by simp only [List.mem_cons, List.not_mem_nil, or_false] at hx ⊢; exact Or.inr hx); omega) (by omega))
  rw [ho1] at CU
  rw [ho2] at CN
  have HP := Lib.hid hp
  have hF := askF_three st t u v
  rw [ho1, ho2] at hF
  have HF := Lib.hid hF
  have hbR : b < R := by obtain ⟨_, _, _, _, _, _, h⟩ := hp; exact h.bR
  have hlen : ∀ ns, o2 = some ns → ns.length = 2 := fun ns e => numsK_len (ho2.trans e)
  obtain ⟨c1, hc1⟩ : ∃ c, cp - 1 = c := ⟨_, rfl⟩
  have hc1' : IntKind.i64.wrap ((cp : Int) - 1) = (c1 : Int) := by rw [IntWalk.i64_in _ (by omega)]; omega
  have hcp1 : ¬ cp = 1 := by omega
  have hcp3 : (1 : Int) ≤ (cp : Int) := by omega
  rw [hc1] at CN
  clear hh hl hz hcc hp ho1 ho2 hF hh2
  go_enter Tryd.func57, Tryd.ntmps57
  go_wp2_with fail
  refine (CU.out _).mono ?_
  rintro e w4 ⟨rfl, hb4⟩
  have B4 := Lib.hid hb4
  clear hb4
  go_wp2_with fail
  refine (CN.out _ B4.out).mono ?_
  intro e w5 h5
  cases o2 with
  | none =>
    obtain ⟨rfl, hb5⟩ := numsP_none h5
    have B5 := Lib.hid (B4.out.trans (hb5.mono B4.out.size))
    clear hb5 h5
    cases o1 with
    | none =>
      go_wp2_with fail
      go_ret
      exact LineP.no HF.out (KP.below B5.out hR hbR) rfl
    | some x =>
      go_wp2_with fail
      go_ret
      exact LineP.no HF.out (KP.below B5.out hR hbR) rfl
  | some ns =>
    have hl := hlen ns rfl
    obtain ⟨a0, a1, rfl⟩ := two_ints hl
    obtain ⟨xa, xc, rfl, hx, hxc, hb5, hxg⟩ := numsP_some h5 hl
    have B5 := Lib.hid (B4.out.trans (hb5.mono B4.out.size))
    obtain ⟨xb, xo, rfl, hxx⟩ := hx.at (by omega)
    have y0 : w5.cell? ⟨xb, xo, none⟩ = some (.int .i64 a0) := hxx 0 (by omega)
    have y1 : w5.cell? ⟨xb, xo + 1, none⟩ = some (.int .i64 a1) := hxx 1 (by omega)
    clear hb5 h5 hxx hx hxg hlen hl
    cases o1 with
    | none =>
      go_wp2_with fail
      go_ret
      exact LineP.no HF.out (KP.below B5.out hR hbR) rfl
    | some x =>
      go_upto_region 7 with fail
      go_cut [9] (fun pv wc => ∃ q, pv = .pointer (some ⟨q, 0, none⟩) ∧ Hid (wc.heap[q]? = some (.cells #[.string x, .int .i64 a0, .int .i64 a1] 48 (0, 0))) ∧ Hid (w5.heap.size ≤ q) ∧ Hid (Below w5.heap.size w5 wc))
      case first =>
        have y2 : (w5.alloc (.cells #[.string { data := #[] }, .int .i64 0, .int .i64 0] 48)).cell? ⟨xb, xo, none⟩ = some (.int .i64 a0) := (World.cell?_alloc_some w5 ⟨xb, xo, none⟩ _ (by rw [y0]; rfl)).trans y0
        have y3 : (w5.alloc (.cells #[.string { data := #[] }, .int .i64 0, .int .i64 0] 48)).cell? ⟨xb, xo + 1, none⟩ = some (.int .i64 a1) := (World.cell?_alloc_some w5 ⟨xb, xo + 1, none⟩ _ (by rw [y1]; rfl)).trans y1
        go_region
        go_wp2_with fail
        go_meet
        exact ⟨_, rfl, Lib.hid (drew_at (heap_alloc_new w5 _)), Lib.hid (Nat.le_refl _), Lib.hid (below_one w5 _).drew⟩
      case rest =>
        rename World => w6
        obtain ⟨q, rfl, hQ, hqg, hB⟩ := hcut
        obtain ⟨wa, ka, ea, wc, kc, ec, hq0⟩ := HP.out
        have B6 := Lib.hid (B5.out.trans (hB.out.mono B5.out.size))
        have hq := hq0.below B6.out
        have HQ := Lib.hid (hq.below (Below.refl w6.heap.size w6).drew)
        have hR4 : R ≤ w6.heap.size := Nat.le_trans hR B6.out.size
        have hxl : q < w6.heap.size := (Array.getElem?_eq_some_iff.1 hQ.out).1
        have hqw : w.heap.size ≤ q := Nat.le_trans B5.out.size hqg.out
        have HXB := Lib.hid (show q ≠ b from by omega)
        have HXE := Lib.hid (show some q ≠ (Value.slice ea st.es.length ec).ownBlock from fun e => by
          have h1 := (hq0.re.lt q e.symm).2
          omega)
        have K4 := Lib.hid ((KP.below B6.out hR hbR).trans (KP.below (Below.refl w6.heap.size w6).drew hR4 hbR))
        have KX := Lib.hid (fun (w' : World) (h : w'.heap[q]? = w6.heap[q]?) => (show w'.cell? ⟨q, 0, none⟩ = some (.string x) ∧ w'.cell? ⟨q, 1, none⟩ = some (.int .i64 a0) ∧ w'.cell? ⟨q, 2, none⟩ = some (.int .i64 a1) from by
          have h2 := h.trans hQ.out
          exact ⟨by rw [Lib.cell_of_heap h2]; rfl, by rw [Lib.cell_of_heap h2]; rfl, by rw [Lib.cell_of_heap h2]; rfl⟩))
        have n1 : w6.drew.cell? ⟨b, 12, none⟩ = some (.slice ea st.es.length ec) := HQ.out.atEv
        have n5 : (w6.drew.alloc (.cells #[.int .i64 1, .int .i64 0, .int .i64 0, .int .i64 0, .string x, .int .i64 a0, .int .i64 a1] 50)).cell? ⟨b, 12, none⟩ = some (.slice ea st.es.length ec) := (HQ.out.below (below_one w6.drew _)).atEv
        have AX := Lib.hid (show ∀ o, (w6.drew.alloc o).heap[q]? = w6.heap[q]? from fun o => Below.heap_alloc w6.drew o q hxl)
        have GX := Lib.hid (show ∀ o w', (w6.drew.alloc o).grownBy w' (Value.slice ea st.es.length ec).ownBlock → w'.heap[q]? = w6.heap[q]? from fun o w' hg => (hg.block q (by simp; exact Nat.lt_succ_of_lt hxl) HXE.out).trans (AX.out o))
        clear hq hq0 hB hQ hqg y0 y1
        go_upto_region 8 with fail
        have hS0 := KX.out w6.drew rfl
        have hRX : R ≤ w6.drew.heap.size := hR4
        refine wp_region_held_drew (S := (fun w' => w'.cell? ⟨q, 0, none⟩ = some (.string x) ∧ w'.cell? ⟨q, 1, none⟩ = some (.int .i64 a0) ∧ w'.cell? ⟨q, 2, none⟩ = some (.int .i64 a1))) (by kernel_rfl) hS0 (fun hHeld0 => ?_)
        clear hS0 hR4
        generalize w6.drew = X0 at *
        refine wpAnyH_take (i := 0) (oi := { dst := some 40, op := Op.move (Operand.tmp 0), type := 94, pos := "parse.go:91", after := #[], guard := none }) (v := ?vz1) rfl (by kernel_rfl) (by kernel_rfl) (by kernel_rfl) (fun _ _ _ h => h) (Or.inl ⟨by rfl, ?hyz1⟩) (by assumption) ?restz1
        case hyz1 => (intro w hSw; (try dsimp only at hSw); go_simp; (try with_reducible rfl))
        try simp only [Act.put, List.setIfInBounds_toArray, List.set_cons_zero, List.set_cons_succ]
        refine wpAnyH_take (i := 1) (oi := { dst := some 41, op := Op.move (Operand.tmp 0), type := 94, pos := "parse.go:91", after := #[], guard := none }) (v := ?vz2) rfl (by kernel_rfl) (by kernel_rfl) (by kernel_rfl) (fun _ _ _ h => h) (Or.inl ⟨by rfl, ?hyz2⟩) (by assumption) ?restz2
        case hyz2 => (intro w hSw; (try dsimp only at hSw); go_simp; (try with_reducible rfl))
        try simp only [Act.put, List.setIfInBounds_toArray, List.set_cons_zero, List.set_cons_succ]
        refine wpAnyH_take (i := 2) (oi := { dst := some 42, op := Op.nilCheck (Operand.tmp 41), type := 0, pos := "parse.go:91", after := #[{ on := 1, ground := Ground.data }], guard := none }) (v := ?vz3) rfl (by kernel_rfl) (by kernel_rfl) (by kernel_rfl) (fun _ _ _ h => h) (Or.inl ⟨by rfl, ?hyz3⟩) (by assumption) ?restz3
        case hyz3 => (intro w hSw; (try dsimp only at hSw); go_simp; (try with_reducible rfl))
        try simp only [Act.put, List.setIfInBounds_toArray, List.set_cons_zero, List.set_cons_succ]
        refine wpAnyH_take (i := 3) (oi := { dst := some 43, op := Op.fieldAddr 77 (Operand.tmp 42) 1, type := 0, pos := "parse.go:91", after := #[{ on := 2, ground := Ground.data }], guard := none }) (v := ?vz4) rfl (by kernel_rfl) (by kernel_rfl) (by kernel_rfl) (fun _ _ _ h => h) (Or.inl ⟨by rfl, ?hyz4⟩) (by assumption) ?restz4
        case hyz4 => (intro w hSw; (try dsimp only at hSw); go_simp; (try with_reducible rfl))
        try simp only [Act.put, List.setIfInBounds_toArray, List.set_cons_zero, List.set_cons_succ]
        refine wpAnyH_take (i := 5) (oi := { dst := some 45, op := Op.load 48 (Operand.tmp 9), type := 48, pos := "parse.go:91", after := #[], guard := none }) (v := ?vz5) rfl (by kernel_rfl) (by kernel_rfl) (by kernel_rfl) (fun _ _ _ h => h) (Or.inl ⟨by rfl, ?hyz5⟩) (by assumption) ?restz5
        case hyz5 => (intro w hSw; (try dsimp only at hSw); go_simp; (try with_reducible rfl))
        try simp only [Act.put, List.setIfInBounds_toArray, List.set_cons_zero, List.set_cons_succ]
        refine wpAnyH_take (i := 6) (oi := { dst := some 46, op := Op.build 50 #[(0, Operand.const (Value.int IntKind.i64 1)), (4, Operand.tmp 45)], type := 50, pos := "parse.go:91", after := #[{ on := 5, ground := Ground.data }], guard := none }) (v := ?vz6) rfl (by kernel_rfl) (by kernel_rfl) (by kernel_rfl) (fun _ _ _ h => h) (Or.inl ⟨by rfl, ?hyz6⟩) (by assumption) ?restz6
        case hyz6 => (intro w hSw; (try dsimp only at hSw); go_simp; (try with_reducible rfl))
        try simp only [Act.put, List.setIfInBounds_toArray, List.set_cons_zero, List.set_cons_succ]
        refine wpAnyH_ready (rs := [4, 7]) (by kernel_rfl) (by simp) ?_
        refine AllReadyH.cons (o := { dst := some 44, op := Op.load 31 (Operand.tmp 43), type := 31, pos := "parse.go:91", after := #[{ on := 3, ground := Ground.data }], guard := none }) rfl (fun K hK => ?_) (AllReadyH.cons (o := { dst := some 47, op := Op.buildSlice 31 1 #[(0, Operand.tmp 46)], type := 31, pos := "parse.go:91", after := #[{ on := 6, ground := Ground.data }], guard := none }) rfl (fun K hK => ?_) AllReadyH.nil)
        · go_simp
          refine hK.out _ _ hHeld0 (fun hHeld1 => ?_)
          clear hK K hHeld0
          try simp only [Act.put, List.setIfInBounds_toArray, List.set_cons_zero, List.set_cons_succ]
          refine wpAnyH_ready (rs := [7]) (by kernel_rfl) (by simp) ?_
          refine AllReadyH.cons (o := { dst := some 47, op := Op.buildSlice 31 1 #[(0, Operand.tmp 46)], type := 31, pos := "parse.go:91", after := #[{ on := 6, ground := Ground.data }], guard := none }) rfl (fun K hK => ?_) AllReadyH.nil
          · go_simp
            refine hK.out _ _ (KX.out _ (AX.out _)) (fun hHeld2 => ?_)
            clear hK K hHeld1
            try simp only [Act.put, List.setIfInBounds_toArray, List.set_cons_zero, List.set_cons_succ]
            refine wpAnyH_ready (rs := [8]) (by kernel_rfl) (by simp) ?_
            refine AllReadyH.cons (o := { dst := some 48, op := Op.call { callee := Callee.builtin Builtin.append, args := #[Operand.tmp 44, Operand.tmp 47], argTypes := #[31, 31] }, type := 31, pos := "parse.go:91", after := #[{ on := 4, ground := Ground.data }, { on := 7, ground := Ground.data }], guard := none }) rfl (fun K hK => ?_) AllReadyH.nil
            · refine step_append_lies _ (by rfl) _ _ _ (by rfl) R 50 i0 _ 7 64 Tryd.underlying31 hii hz0 hz1 hz2 rfl (by omega) (.slice ea st.es.length ec) st.es.length (evsV st.es) (by rfl) (HQ.out.re.alloc _) ⟨X0.heap.size, 0, none⟩ 1 1 [.int .i64 1, .int .i64 0, .int .i64 0, .int .i64 0, .string x, .int .i64 a0, .int .i64 a1] (by rfl) (by rfl) (World.news_of_block (cs := #[.int .i64 1, .int .i64 0, .int .i64 0, .int .i64 0, .string x, .int .i64 a0, .int .i64 a1]) (t := 50) (fr := (0, 0)) (heap_alloc_new X0 _)) (by simp [Value.oneCell']) (by omega) (by unfold maxLen; omega) (by omega) (by simp; omega) (X0.heap.size + 1) (by simp) ?_
              intro g3 c3 w9 hown9 hgrow9 hat9 hlt9
              obtain ⟨x0, x1⟩ := HQ.out.keepEv _ _ hgrow9
              have x2 := GX.out _ _ hgrow9
              refine hK.out _ _ (KX.out _ x2) (fun hHeld3 => ?_)
              clear hK K hHeld2
              try simp only [Act.put, List.setIfInBounds_toArray, List.set_cons_zero, List.set_cons_succ]
              refine wpAnyH_take (i := 9) (oi := { dst := some 49, op := Op.nilCheck (Operand.tmp 40), type := 0, pos := "parse.go:91", after := #[{ on := 0, ground := Ground.data }, { on := 0, ground := Ground.phase }, { on := 1, ground := Ground.phase }, { on := 2, ground := Ground.phase }, { on := 3, ground := Ground.phase }, { on := 4, ground := Ground.phase }, { on := 5, ground := Ground.phase }, { on := 6, ground := Ground.phase }, { on := 7, ground := Ground.phase }, { on := 8, ground := Ground.phase }], guard := none }) (v := ?vz7) rfl (by kernel_rfl) (by kernel_rfl) (by kernel_rfl) (fun _ _ _ h => h) (Or.inl ⟨by rfl, ?hyz7⟩) (by assumption) ?restz7
              case hyz7 => (intro w hSw; (try dsimp only at hSw); go_simp; (try with_reducible rfl))
              try simp only [Act.put, List.setIfInBounds_toArray, List.set_cons_zero, List.set_cons_succ]
              refine wpAnyH_take (i := 10) (oi := { dst := some 50, op := Op.fieldAddr 77 (Operand.tmp 49) 1, type := 0, pos := "parse.go:91", after := #[{ on := 9, ground := Ground.data }, { on := 0, ground := Ground.phase }, { on := 1, ground := Ground.phase }, { on := 2, ground := Ground.phase }, { on := 3, ground := Ground.phase }, { on := 4, ground := Ground.phase }, { on := 5, ground := Ground.phase }, { on := 6, ground := Ground.phase }, { on := 7, ground := Ground.phase }, { on := 8, ground := Ground.phase }], guard := none }) (v := ?vz8) rfl (by kernel_rfl) (by kernel_rfl) (by kernel_rfl) (fun _ _ _ h => h) (Or.inl ⟨by rfl, ?hyz8⟩) (by assumption) ?restz8
              case hyz8 => (intro w hSw; (try dsimp only at hSw); go_simp; (try with_reducible rfl))
              try simp only [Act.put, List.setIfInBounds_toArray, List.set_cons_zero, List.set_cons_succ]
              refine wpAnyH_ready (rs := [11]) (by kernel_rfl) (by simp) ?_
              refine AllReadyH.cons (o := { dst := none, op := Op.store 31 (Operand.tmp 50) (Operand.tmp 48), type := 0, pos := "parse.go:91", after := #[{ on := 10, ground := Ground.data }, { on := 8, ground := Ground.data }, { on := 8, ground := Ground.chain }, { on := 0, ground := Ground.phase }, { on := 1, ground := Ground.phase }, { on := 2, ground := Ground.phase }, { on := 3, ground := Ground.phase }, { on := 4, ground := Ground.phase }, { on := 5, ground := Ground.phase }, { on := 6, ground := Ground.phase }, { on := 7, ground := Ground.phase }, { on := 8, ground := Ground.phase }], guard := none }) rfl (fun K hK => ?_) AllReadyH.nil
              · go_simp
                refine hK.out _ _ (KX.out _ ((Below.heap_setCell _ ⟨b, 12, none⟩ _ _ HXB.out).trans x2)) (fun hHeldE => ?_)
                clear hK K hHeld3
                try simp only [Act.put]
                refine wpAnyH_done (by kernel_rfl) ?_ _
                have P3 := Lib.hid (HQ.out.evt (t := ⟨1, 0, 0, 0, x, a0, a1⟩) hRX hown9 hgrow9 hc)
                clear hown9 hgrow9 hat9 hlt9 x0 x1 x2 n1 n5
                go_wp2_with fail
                go_ret
                exact LineP.yes HF.out (K4.out.trans P3.out.2) rfl P3.out.1
        · go_simp
          refine hK.out _ _ (KX.out _ (AX.out _)) (fun hHeld1 => ?_)
          clear hK K hHeld0
          try simp only [Act.put, List.setIfInBounds_toArray, List.set_cons_zero, List.set_cons_succ]
          refine wpAnyH_ready (rs := [4]) (by kernel_rfl) (by simp) ?_
          refine AllReadyH.cons (o := { dst := some 44, op := Op.load 31 (Operand.tmp 43), type := 31, pos := "parse.go:91", after := #[{ on := 3, ground := Ground.data }], guard := none }) rfl (fun K hK => ?_) AllReadyH.nil
          · go_simp
            refine hK.out _ _ hHeld1 (fun hHeld2 => ?_)
            clear hK K hHeld1
            try simp only [Act.put, List.setIfInBounds_toArray, List.set_cons_zero, List.set_cons_succ]
            refine wpAnyH_ready (rs := [8]) (by kernel_rfl) (by simp) ?_
            refine AllReadyH.cons (o := { dst := some 48, op := Op.call { callee := Callee.builtin Builtin.append, args := #[Operand.tmp 44, Operand.tmp 47], argTypes := #[31, 31] }, type := 31, pos := "parse.go:91", after := #[{ on := 4, ground := Ground.data }, { on := 7, ground := Ground.data }], guard := none }) rfl (fun K hK => ?_) AllReadyH.nil
            · refine step_append_lies _ (by rfl) _ _ _ (by rfl) R 50 i0 _ 7 64 Tryd.underlying31 hii hz0 hz1 hz2 rfl (by omega) (.slice ea st.es.length ec) st.es.length (evsV st.es) (by rfl) (HQ.out.re.alloc _) ⟨X0.heap.size, 0, none⟩ 1 1 [.int .i64 1, .int .i64 0, .int .i64 0, .int .i64 0, .string x, .int .i64 a0, .int .i64 a1] (by rfl) (by rfl) (World.news_of_block (cs := #[.int .i64 1, .int .i64 0, .int .i64 0, .int .i64 0, .string x, .int .i64 a0, .int .i64 a1]) (t := 50) (fr := (0, 0)) (heap_alloc_new X0 _)) (by simp [Value.oneCell']) (by omega) (by unfold maxLen; omega) (by omega) (by simp; omega) (X0.heap.size + 1) (by simp) ?_
              intro g3 c3 w9 hown9 hgrow9 hat9 hlt9
              obtain ⟨x0, x1⟩ := HQ.out.keepEv _ _ hgrow9
              have x2 := GX.out _ _ hgrow9
              refine hK.out _ _ (KX.out _ x2) (fun hHeld3 => ?_)
              clear hK K hHeld2
              try simp only [Act.put, List.setIfInBounds_toArray, List.set_cons_zero, List.set_cons_succ]
              refine wpAnyH_take (i := 9) (oi := { dst := some 49, op := Op.nilCheck (Operand.tmp 40), type := 0, pos := "parse.go:91", after := #[{ on := 0, ground := Ground.data }, { on := 0, ground := Ground.phase }, { on := 1, ground := Ground.phase }, { on := 2, ground := Ground.phase }, { on := 3, ground := Ground.phase }, { on := 4, ground := Ground.phase }, { on := 5, ground := Ground.phase }, { on := 6, ground := Ground.phase }, { on := 7, ground := Ground.phase }, { on := 8, ground := Ground.phase }], guard := none }) (v := ?vz9) rfl (by kernel_rfl) (by kernel_rfl) (by kernel_rfl) (fun _ _ _ h => h) (Or.inl ⟨by rfl, ?hyz9⟩) (by assumption) ?restz9
              case hyz9 => (intro w hSw; (try dsimp only at hSw); go_simp; (try with_reducible rfl))
              try simp only [Act.put, List.setIfInBounds_toArray, List.set_cons_zero, List.set_cons_succ]
              refine wpAnyH_take (i := 10) (oi := { dst := some 50, op := Op.fieldAddr 77 (Operand.tmp 49) 1, type := 0, pos := "parse.go:91", after := #[{ on := 9, ground := Ground.data }, { on := 0, ground := Ground.phase }, { on := 1, ground := Ground.phase }, { on := 2, ground := Ground.phase }, { on := 3, ground := Ground.phase }, { on := 4, ground := Ground.phase }, { on := 5, ground := Ground.phase }, { on := 6, ground := Ground.phase }, { on := 7, ground := Ground.phase }, { on := 8, ground := Ground.phase }], guard := none }) (v := ?vz10) rfl (by kernel_rfl) (by kernel_rfl) (by kernel_rfl) (fun _ _ _ h => h) (Or.inl ⟨by rfl, ?hyz10⟩) (by assumption) ?restz10
              case hyz10 => (intro w hSw; (try dsimp only at hSw); go_simp; (try with_reducible rfl))
              try simp only [Act.put, List.setIfInBounds_toArray, List.set_cons_zero, List.set_cons_succ]
              refine wpAnyH_ready (rs := [11]) (by kernel_rfl) (by simp) ?_
              refine AllReadyH.cons (o := { dst := none, op := Op.store 31 (Operand.tmp 50) (Operand.tmp 48), type := 0, pos := "parse.go:91", after := #[{ on := 10, ground := Ground.data }, { on := 8, ground := Ground.data }, { on := 8, ground := Ground.chain }, { on := 0, ground := Ground.phase }, { on := 1, ground := Ground.phase }, { on := 2, ground := Ground.phase }, { on := 3, ground := Ground.phase }, { on := 4, ground := Ground.phase }, { on := 5, ground := Ground.phase }, { on := 6, ground := Ground.phase }, { on := 7, ground := Ground.phase }, { on := 8, ground := Ground.phase }], guard := none }) rfl (fun K hK => ?_) AllReadyH.nil
              · go_simp
                refine hK.out _ _ (KX.out _ ((Below.heap_setCell _ ⟨b, 12, none⟩ _ _ HXB.out).trans x2)) (fun hHeldE => ?_)
                clear hK K hHeld3
                try simp only [Act.put]
                refine wpAnyH_done (by kernel_rfl) ?_ _
                have P3 := Lib.hid (HQ.out.evt (t := ⟨1, 0, 0, 0, x, a0, a1⟩) hRX hown9 hgrow9 hc)
                clear hown9 hgrow9 hat9 hlt9 x0 x1 x2 n1 n5
                go_wp2_with fail
                go_ret
                exact LineP.yes HF.out (K4.out.trans P3.out.2) rfl P3.out.1
end Go.Proofs.YtmddnklafplikaaDoor
namespace Go.Proofs.YtmddnklafplikaaDoor
open Go.RowKit
set_option linter.unusedVariables false
set_option maxRecDepth 20000
theorem splitL_le (c : UInt8) : ∀ l, ∀ p ∈ splitL c l, p.length ≤ l.length
  | [], p, h => by simp [splitL] at h; subst h; simp
  | x :: l, p, h => by
    have ih := splitL_le c l
    unfold splitL at h
    split at h
    · rcases List.mem_cons.1 h with rfl | h
      · simp
      · have := ih p h; simp; omega
    · match hs : splitL c l, splitL_ne c l with
      | q :: t, _ =>
        rw [hs] at h ih
        rcases List.mem_cons.1 h with rfl | h
        · have := ih q (by simp); simp; omega
        · have := ih p (by simp [h]); simp; omega
theorem holds_rest {w : World} {b o q c : Nat} {t : Tx} {ts : List Tx} (h : HoldsT w (some ⟨b, o, none⟩) (q + 1) (t :: ts)) (hc : q + 1 ≤ c) : HoldsT w (if c = 1 then some ⟨b, o, none⟩ else some ⟨b, o + 1, none⟩) q ts := by
  have h1 := h.drop 1 (by omega)
  simp only [List.drop_succ_cons, List.drop_zero, Nat.add_sub_cancel] at h1
  split
  · obtain rfl : q = 0 := by omega
    exact ⟨h1.1, fun h => absurd h (by omega)⟩
  · exact h1
theorem LineP.ret {R b : Nat} {w w' : World} {o : Option PS} {e : Ending} (h : LineP R b w o e w') : e = .returned (.bool o.isSome) := by
  cases o with
  | none => exact h.2
  | some st => exact h.2.1
theorem LineP.past {R b : Nat} {w w4 w' : World} {o : Option PS} {e : Ending} (h : LineP R b w4 o e w') (k : KP R b w w4) : LineP R b w o e w' := ⟨k.trans h.1, h.2⟩
theorem lit_yes {t : Tx} {l : List UInt8} (h : t.data.toList = l) : (t.toList == l) = true := by rw [ByteArray.toList_eq, h]; simp
theorem lit_no {t : Tx} {l : List UInt8} (h : t.data.toList ≠ l) : (t.toList == l) = false := by rw [ByteArray.toList_eq]; simpa using h
set_option maxRecDepth 100000 in
set_option maxHeartbeats 1600000 in
theorem line_any (R b : Nat) (st : PS) (l : ByteArray) (w : World) (hp : PA w R b st) (hR : R ≤ w.heap.size) (hs : l.size ≤ 300000) (hm : MaxL w) (hc1 : st.ws.length + 1 ≤ 1048576) (hc2 : st.ks.length + 1 ≤ 1048576) (hc3 : st.es.length + 1 ≤ 1048576) :
    Calls Tryd.prog 36 #[.pointer (some ⟨b, 0, none⟩), .string l] w (LineP R b w (lineF st l.data.toList)) := by
  have CS := Lib.hid (split_any 32 l { data := #[32] } w (by omega) hm rfl rfl)
  have hll : l.data.toList.length = l.size := by simp
  obtain ⟨d, hd⟩ : ∃ d, l.data.toList = d := ⟨_, rfl⟩
  rw [hd] at CS hll ⊢
  have HP := Lib.hid hp
  have hbR : b < R := by obtain ⟨_, _, _, _, _, _, h⟩ := hp; exact h.bR
  have HLL := Lib.hid hll
  clear hp hm hd hll
  go_enter Tryd.func36, Tryd.ntmps36
  go_wp2_with fail
  refine CS.out.mono ?_
  rintro e w4 ⟨ts, n, rfl, hT, hb, hB, hn⟩
  obtain ⟨t, r, rfl⟩ : ∃ t r, ts = t :: r := by
    match ts with
    | [] => exact absurd hb.symm (splitL_ne 32 d)
    | t :: r => exact ⟨t, r, rfl⟩
  have hlF : lineF st d = partsF st t.data.toList (bytesL r) := by
    unfold lineF; rw [← hb]; rfl
  have hsz : ∀ x ∈ t :: r, ByteArray.size x ≤ 300000 := fun x hx => by
    have h1 : x.data.toList ∈ splitL 32 d := by rw [← hb]; exact List.mem_map_of_mem hx
    have h2 := splitL_le 32 d _ h1
    have h3 : x.data.toList.length = ByteArray.size x := Array.length_toList
    have := HLL.out; omega
  have hlen := hT.len
  obtain ⟨q, rfl⟩ : ∃ q, n = q + 1 := ⟨n - 1, by simp at hlen; omega⟩
  have hq9 : q ≤ 300000 := by
    have h1 : (splitL 32 d).length ≤ d.length + 1 := by
      have : ∀ l : List UInt8, (splitL 32 l).length ≤ l.length + 1 := by
        intro l
        induction l with
        | nil => simp [splitL]
        | cons x l ih =>
          unfold splitL
          split
          · simp; omega
          · split
            · simp
            · rename_i h t e
              rw [e] at ih; simp at ih ⊢; omega
      exact this d
    have := HLL.out; omega
  obtain ⟨bb, oo, e1, hcc⟩ := hT.at (by omega)
  have x0 : w4.cell? ⟨w.heap.size, 0, none⟩ = some (.string t) := by
    injection e1 with e1
    injection e1 with e1 e2
    subst e1; subst e2
    exact hcc 0 (by omega)
  obtain ⟨K, hK⟩ : ∃ K, w.heap.size = K := ⟨_, rfl⟩
  rw [hK] at hT x0 e1 ⊢
  have HR4 := Lib.hid (holds_rest (c := q + 1) hT (Nat.le_refl _))
  obtain ⟨ra, hra⟩ : ∃ a, (if q = 0 then (some ⟨K, 0, none⟩ : Option Addr) else some ⟨K, 1, none⟩) = a := ⟨_, rfl⟩
  rw [show (if q + 1 = 1 then (some ⟨K, 0, none⟩ : Option Addr) else some ⟨K, 0 + 1, none⟩) = ra from by rw [← hra]; simp] at HR4
  have hR4 : R ≤ w4.heap.size := Nat.le_trans hR hB.size
  have P4 := Lib.hid (HP.out.below hB)
  have K4 := Lib.hid (KP.below hB hR hbR)
  have HSZ := Lib.hid (show ∀ x ∈ r, ByteArray.size x ≤ 300000 from fun x hx => hsz x (by simp [hx]))
  have HLF := Lib.hid hlF
  have LW := Lib.hid (word_any R b st ra q q r w4 P4.out hR4 HR4.out (by omega) HSZ.out hc1)
  have LC := Lib.hid (cut_pany R b st ra q q r w4 P4.out hR4 HR4.out (by omega) HSZ.out hc2)
  have LS := Lib.hid (set_any R b st ra q q r w4 P4.out hR4 HR4.out (by omega) HSZ.out)
  have LE := Lib.hid (event_any R b st ra q q r w4 P4.out hR4 HR4.out (by omega) HSZ.out hc3)
  have LA := Lib.hid (ask_any R b st ra q q r w4 P4.out hR4 HR4.out (by omega) HSZ.out hc3 (by omega))
  clear hT hb hB hn hlF hsz hlen e1 hcc hK
  by_cases h0 : t.data.toList = wordB
  · have g0 := lit_yes h0
    have HF := Lib.hid (show lineF st d = wordF st (bytesL r) from by rw [HLF.out]; unfold partsF; rw [if_pos h0])
    unfold wordB at g0
    clear h0
    go_wp2_with fail
    refine LW.out.mono ?_
    intro e w5 h5
    have he := h5.ret
    subst he
    have H5 := Lib.hid (h5.past K4.out)
    clear h5
    go_wp2_with fail
    go_ret
    rw [HF.out]
    exact H5.out
  have g0 := lit_no h0
  unfold wordB at g0
  by_cases h1 : t.data.toList = cutB
  · have g1 := lit_yes h1
    have HF := Lib.hid (show lineF st d = cutF st (bytesL r) from by rw [HLF.out]; unfold partsF; rw [if_neg h0]; rw [if_pos h1])
    unfold cutB at g1
    clear h0 h1
    go_wp2_with fail
    refine LC.out.mono ?_
    intro e w5 h5
    have he := h5.ret
    subst he
    have H5 := Lib.hid (h5.past K4.out)
    clear h5
    go_wp2_with fail
    go_ret
    rw [HF.out]
    exact H5.out
  have g1 := lit_no h1
  unfold cutB at g1
  by_cases h2 : t.data.toList = setB
  · have g2 := lit_yes h2
    have HF := Lib.hid (show lineF st d = setF st (bytesL r) from by rw [HLF.out]; unfold partsF; rw [if_neg h0]; rw [if_neg h1]; rw [if_pos h2])
    unfold setB at g2
    clear h0 h1 h2
    go_wp2_with fail
    refine LS.out.mono ?_
    intro e w5 h5
    have he := h5.ret
    subst he
    have H5 := Lib.hid (h5.past K4.out)
    clear h5
    go_wp2_with fail
    go_ret
    rw [HF.out]
    exact H5.out
  have g2 := lit_no h2
  unfold setB at g2
  by_cases h3 : t.data.toList = evB
  · have g3 := lit_yes h3
    have HF := Lib.hid (show lineF st d = evF st (bytesL r) from by rw [HLF.out]; unfold partsF; rw [if_neg h0]; rw [if_neg h1]; rw [if_neg h2]; rw [if_pos h3])
    unfold evB at g3
    clear h0 h1 h2 h3
    go_wp2_with fail
    refine LE.out.mono ?_
    intro e w5 h5
    have he := h5.ret
    subst he
    have H5 := Lib.hid (h5.past K4.out)
    clear h5
    go_wp2_with fail
    go_ret
    rw [HF.out]
    exact H5.out
  have g3 := lit_no h3
  unfold evB at g3
  by_cases h4 : t.data.toList = askB
  · have g4 := lit_yes h4
    have HF := Lib.hid (show lineF st d = askF st (bytesL r) from by rw [HLF.out]; unfold partsF; rw [if_neg h0]; rw [if_neg h1]; rw [if_neg h2]; rw [if_neg h3]; rw [if_pos h4])
    unfold askB at g4
    clear h0 h1 h2 h3 h4
    go_wp2_with fail
    refine LA.out.mono ?_
    intro e w5 h5
    have he := h5.ret
    subst he
    have H5 := Lib.hid (h5.past K4.out)
    clear h5
    go_wp2_with fail
    go_ret
    rw [HF.out]
    exact H5.out
  have g4 := lit_no h4
  unfold askB at g4
  have HF := Lib.hid (show lineF st d = none from by rw [HLF.out]; unfold partsF; rw [if_neg h0, if_neg h1, if_neg h2, if_neg h3, if_neg h4])
  clear h0 h1 h2 h3 h4
  go_wp2_with fail
  go_ret
  exact LineP.no HF.out K4.out rfl
end Go.Proofs.YtmddnklafplikaaDoor
namespace Go.Proofs.YtmddnklafplikaaDoor
open Go.RowKit
set_option linter.unusedVariables false
set_option maxRecDepth 20000
theorem results_cell4 {fn : Func} {p q r s : Tmp} {ty : TypeId} (h : fn.results = #[.cell p ty, .tmp q, .tmp r, .tmp s]) (tmps : Array Value) (w : World) (g : Nat) (V v v2 v3 : Value)
    (hp : tmps.getD p undef = .pointer (some ⟨g, 0, none⟩)) (hv : tmps.getD q undef = v) (hv2 : tmps.getD r undef = v2) (hv3 : tmps.getD s undef = v3) (hl : (loadVar ty ⟨g, 0, none⟩).run Tryd.prog w = .ok V w) :
    (results fn tmps).run Tryd.prog w = .ok (.tuple #[V, v, v2, v3]) w := by
  have hp' : tmps[p]?.getD undef = .pointer (some ⟨g, 0, none⟩) := by simpa using hp
  have hv' : tmps[q]?.getD undef = v := by simpa using hv
  have hv2' : tmps[r]?.getD undef = v2 := by simpa using hv2
  have hv3' : tmps[s]?.getD undef = v3 := by simpa using hv3
  simp [results, h, hp', hv', hv2', hv3', asAddr, hl]
def cfgA (wa ka : Option Addr) (wc kc : Nat) (st : PS) : Array Value := #[.slice wa st.ws.length wc, .slice ka st.ks.length kc, .int .i64 (st.ns.getD 0 0), .int .i64 (st.ns.getD 1 0), .int .i64 (st.ns.getD 2 0), .int .i64 (st.ns.getD 3 0), .int .i64 (st.ns.getD 4 0), .int .i64 (st.ns.getD 5 0), .int .i64 (st.ns.getD 6 0), .int .i64 (st.ns.getD 7 0), .int .i64 (st.ns.getD 8 0), .int .i64 (st.ns.getD 9 0)]
structure ParsedAt (w : World) (B : Nat) (wa ka ea : Option Addr) (wc kc ec : Nat) (st : PS) : Prop where
  rw : w.ownsRow B 9 1 (.slice wa st.ws.length wc) st.ws.length (strsV st.ws)
  rk : w.ownsRow B 65 2 (.slice ka st.ks.length kc) st.ks.length (keysV st.ks)
  re : w.ownsRow B 50 7 (.slice ea st.es.length ec) st.es.length (evsV st.es)
  len : st.ns.length = 10
  cap : st.ws.length ≤ 1048576 ∧ st.ks.length ≤ 1048576 ∧ st.es.length ≤ 1048576
def ParP (w : World) (r : PS × Nat × Nat) (e : Ending) (w' : World) : Prop := ∃ wa ka ea wc kc ec, e = .returned (.tuple #[.agg (cfgA wa ka wc kc r.1), .slice ea r.1.es.length ec, .int .i64 (r.2.1 : Int), .int .i64 (r.2.2 : Int)]) ∧ ParsedAt w' w.heap.size wa ka ea wc kc ec r.1 ∧ Below w.heap.size w w'
theorem parsed_zero (w : World) (B : Nat) : ParsedAt w B none none none 0 0 0 ps0 := ⟨World.ownsRow_nil _ _ _ _, World.ownsRow_nil _ _ _ _, World.ownsRow_nil _ _ _ _, rfl, by decide⟩
theorem partsF_grow {st st' : PS} {k : List UInt8} {r : List (List UInt8)} (h : partsF st k r = some st') : st'.ws.length ≤ st.ws.length + 1 ∧ st'.ks.length ≤ st.ks.length + 1 ∧ st'.es.length ≤ st.es.length + 1 := by
  unfold partsF at h
  split at h
  · unfold wordF at h
    split at h
    · split at h
      · injection h with h; subst h; simp
      · cases h
    · cases h
  · split at h
    · unfold cutF at h
      split at h
      · split at h
        · injection h with h; subst h; simp
        · cases h
      · cases h
    · split at h
      · unfold setF at h
        split at h
        · injection h with h; subst h; simp
        · cases h
      · split at h
        · unfold evF at h
          split at h
          · split at h
            · cases h
            · injection h with h; subst h; simp
          · cases h
        · split at h
          · unfold askF at h
            split at h
            · split at h
              · injection h with h; subst h; simp
              · cases h
            · cases h
          · cases h
theorem lineF_grow {st st' : PS} {l : List UInt8} (h : lineF st l = some st') : st'.ws.length ≤ st.ws.length + 1 ∧ st'.ks.length ≤ st.ks.length + 1 ∧ st'.es.length ≤ st.es.length + 1 := by
  unfold lineF at h
  split at h
  · exact partsF_grow h
  · cases h
theorem linesL_le (s : List UInt8) : (linesL s).length ≤ s.length + 1 ∧ ∀ p ∈ linesL s, p.length ≤ s.length := by
  have h1 : ∀ l : List UInt8, (splitL 10 l).length ≤ l.length + 1 := by
    intro l
    induction l with
    | nil => simp [splitL]
    | cons x l ih =>
      unfold splitL
      split
      · simp; omega
      · split
        · simp
        · rename_i h t e
          rw [e] at ih; simp at ih ⊢; omega
  have h2 : (trimN s).length ≤ s.length := by
    unfold trimN
    split
    · rw [List.length_dropLast]; omega
    · omega
  unfold linesL
  split
  · simp
  · refine ⟨Nat.le_trans (h1 _) (by omega), fun p hp => Nat.le_trans (splitL_le 10 _ p hp) h2⟩
theorem holds_kept {w w' : World} {a : Option Addr} {n : Nat} {ts : List Tx} (h : HoldsT w a n ts) (hk : ∀ g o, a = some ⟨g, o, none⟩ → w'.heap[g]? = w.heap[g]?) : HoldsT w' a n ts := by
  refine ⟨h.1, fun h0 => ?_⟩
  obtain ⟨b, o, ha, hc⟩ := h.2 h0
  exact ⟨b, o, ha, fun i hi => (World.cell?_of_block (w := w) (hk b o ha)).trans (hc i hi)⟩
theorem owns_lowS {w : World} {B B' : Nat} {e : TypeId} {size : Nat} {v : Value} {n : Nat} {xs : List Value} (h : w.ownsRow B e size v n xs) (hb : B' ≤ B) : w.ownsRow B' e size v n xs := by
  refine ⟨h.1, ?_⟩
  rcases h.2 with hn | ⟨g, cap, cur, hv, hB, rest⟩
  · exact Or.inl hn
  · exact Or.inr ⟨g, cap, cur, hv, Nat.le_trans hb hB, rest⟩
theorem grown_rowS (w : World) (g : Nat) (cs : Array Value) : w.grownBy (w.setRow g cs) (some g) := ⟨rfl, rfl, rfl, by simp, fun k hk hne => setRow_other w g k cs (fun e => hne (by rw [e]))⟩
theorem ParAt.parsed {w w' : World} {R b q B : Nat} {wa ka ea : Option Addr} {wc kc ec : Nat} {st : PS} (h : ParAt w R b wa ka ea wc kc ec st) (hg : w.grownBy w' (some q)) (hq : q < R) (hB : B ≤ R) : ParsedAt w' B wa ka ea wc kc ec st :=
  ⟨owns_lowS (h.rw.kept hg (Or.inr fun e => by have := (h.rw.lt q e).1; omega)) hB, owns_lowS (h.rk.kept hg (Or.inr fun e => by have := (h.rk.lt q e).1; omega)) hB, owns_lowS (h.re.kept hg (Or.inr fun e => by have := (h.re.lt q e).1; omega)) hB, h.len, h.cap⟩
theorem cfg_size : (Tryd.prog.info? 30).map (·.size) = some 12 := by kernel_rfl
def zPar : Array Value := #[.slice none 0 0, .slice none 0 0, .int .i64 0, .int .i64 0, .int .i64 0, .int .i64 0, .int .i64 0, .int .i64 0, .int .i64 0, .int .i64 0, .int .i64 0, .int .i64 0, .slice none 0 0]
theorem below_rowS {B q : Nat} {w w' : World} (h : Below B w w') (hq : B ≤ q) (cs : Array Value) : Below B w (w'.setRow q cs) := ⟨h.os, h.tape, h.output, by simpa using h.size, fun k hk => (setRow_other w' q k cs (by omega)).trans (h.block k hk)⟩
theorem readF_no {st : PS} {i : Nat} {l : List UInt8} {r : List (List UInt8)} (h : lineF st l = none) : readF st i (l :: r) = (ps0, i + 1) := by rw [readF, h]
theorem readF_yes {st st' : PS} {i : Nat} {l : List UInt8} {r : List (List UInt8)} (h : lineF st l = some st') : readF st i (l :: r) = readF st' (i + 1) r := by rw [readF, h]
theorem parse_ok {s : List UInt8} {st : PS} (hs : s.length ≤ 65536) (h : readF ps0 0 (linesL s) = (st, 0)) : parseF s = (st, 0, 0) := by
  unfold parseF; rw [if_neg (by omega), h]
theorem parse_bad {s : List UInt8} {k : Nat} (hs : s.length ≤ 65536) (h : readF ps0 0 (linesL s) = (ps0, k + 1)) : parseF s = (ps0, k + 1, 11) := by
  unfold parseF; rw [if_neg (by omega), h]
def zCfg : Array Value := #[.slice none 0 0, .slice none 0 0, .int .i64 0, .int .i64 0, .int .i64 0, .int .i64 0, .int .i64 0, .int .i64 0, .int .i64 0, .int .i64 0, .int .i64 0, .int .i64 0]
set_option maxRecDepth 100000 in
set_option maxHeartbeats 1600000 in
theorem parse_any (s : ByteArray) (w : World) (hs : s.size ≤ 300000) (hm : MaxL w) : Calls Tryd.prog 18 #[.string s] w (ParP w (parseF s.data.toList)) := by
  obtain ⟨d, hd⟩ : ∃ d, s.data.toList = d := ⟨_, rfl⟩
  have hds : d.length = s.size := by rw [← hd]; simp
  obtain ⟨z, hz⟩ : ∃ z, s.size = z := ⟨_, rfl⟩
  rw [hd]
  rw [hz] at hs hds
  have HD := Lib.hid hd
  have HDS := Lib.hid hds
  obtain ⟨w1, hw1⟩ : ∃ w1, w.alloc (.cells zCfg 30) = w1 := ⟨_, rfl⟩
  have hb1 : Below w.heap.size w w1 := hw1 ▸ below_one w _
  have hc1 : w1.heap[w.heap.size]? = some (.cells zCfg 30 (0, 0)) := by rw [← hw1]; exact heap_alloc_new w _
  have hs1 : w1.heap.size = w.heap.size + 1 := by rw [← hw1]; simp
  by_cases h6 : 65536 < z
  · have hpf : parseF d = (ps0, 0, 3) := by unfold parseF; rw [if_pos (by omega)]
    have HPF := Lib.hid hpf
    have d1 : decide ((z : Int) > 65536) = true := decide_eq_true (by omega)
    have d2 : decide (65536 < z) = true := decide_eq_true h6
    have B1 := Lib.hid hb1
    have C1 := Lib.hid hc1
    clear hd hds hpf h6 hb1 hc1 hs1
    unfold zCfg at hw1
    go_enter Tryd.func18, Tryd.ntmps18
    go_upto_region 1 with fail
    try rw [hw1]
    obtain ⟨q, hq⟩ : ∃ q, w.heap.size = q := ⟨_, rfl⟩
    try simp only [hq]
    have HQ := Lib.hid hq
    rw [hq] at C1
    clear hw1 hq
    go_wp2_with (first | (refine wpList_store_row rfl 30 (.tmp 2) (.tmp 12) rfl q #[.slice none 0 0, .slice none 0 0, .int .i64 0, .int .i64 0, .int .i64 0, .int .i64 0, .int .i64 0, .int .i64 0, .int .i64 0, .int .i64 0, .int .i64 0, .int .i64 0] rfl rfl 30 zCfg C1.out cfg_size rfl (by simp [Value.oneCell']) ?_) | fail)
    (try simp only [Exit.inBlock, Exit.then])
    refine bodyPost_ret (results_cell4 rfl _ _ q _ _ _ _ rfl rfl rfl rfl (run_loadVar_row _ q 30 30 #[.slice none 0 0, .slice none 0 0, .int .i64 0, .int .i64 0, .int .i64 0, .int .i64 0, .int .i64 0, .int .i64 0, .int .i64 0, .int .i64 0, .int .i64 0, .int .i64 0] (0, 0) _ (setRow_heap _ q _ _ _ _ C1.out) Tryd.underlying30 rfl cfg_size)) rfl ?_
    rw [HPF.out]
    exact ⟨none, none, none, 0, 0, 0, rfl, parsed_zero _ _, below_rowS B1.out (by rw [HQ.out]; exact Nat.le_refl _) _⟩
  · have d1 : decide ((z : Int) > 65536) = false := decide_eq_false (by omega)
    have d2 : decide (65536 < z) = false := decide_eq_false h6
    have B1 := Lib.hid hb1
    have C1 := Lib.hid hc1
    obtain ⟨w2, hw2⟩ : ∃ w2, w1.alloc (.cells zPar 77) = w2 := ⟨_, rfl⟩
    have hb2 : Below w1.heap.size w1 w2 := hw2 ▸ below_one w1 _
    have hc2 : w2.heap[w1.heap.size]? = some (.cells zPar 77 (0, 0)) := by rw [← hw2]; exact heap_alloc_new w1 _
    have hs2 : w2.heap.size = w1.heap.size + 1 := by rw [← hw2]; simp
    have HPY := Lib.hid (fun st h => parse_ok (s := d) (st := st) (by omega) h)
    have HPN := Lib.hid (fun k h => parse_bad (s := d) (k := k) (by omega) h)
    have CL := Lib.hid (fun w' (h : MaxL w') => lines_any s w' (by omega) h)
    rw [hd] at CL
    have B2 := Lib.hid (hb1.trans (hb2.mono hb1.size))
    have M2 := Lib.hid (hm.below (hb1.trans (hb2.mono hb1.size)) (Nat.le_refl _))
    have C2 := Lib.hid hc2
    have C1' := Lib.hid (show w2.heap[w.heap.size]? = some (.cells zCfg 30 (0, 0)) from by rw [hb2.block _ (by omega)]; exact hc1)
    have S1 := Lib.hid hs1; have S2 := Lib.hid hs2
    have HM := Lib.hid hm
    clear h6 hb1 hc1 hb2 hc2 hd hm hds
    unfold zCfg at hw1
    unfold zPar at hw2
    go_enter Tryd.func18, Tryd.ntmps18
    go_upto_region 4 with fail
    try rw [hw1]
    try rw [hw2]
    obtain ⟨q, hq⟩ : ∃ q, w.heap.size = q := ⟨_, rfl⟩
    have hq1 : w1.heap.size = q + 1 := by rw [← hq]; exact hs1
    try simp only [hq]
    have HQ := Lib.hid hq
    rw [hq] at C1'
    rw [hq1] at C2
    have S3 := Lib.hid (show w2.heap.size = q + 2 from by rw [hs2, hq1])
    clear hw1 hw2 hq hq1 hs1 hs2
    go_wp2_with fail
    refine (CL.out _ M2.out).mono ?_
    rintro e w3 ⟨la, ts, n, rfl, hT, hls, hB, hn, hlg⟩
    have hlb := linesL_le d
    have hn9 : n ≤ 300001 := by rw [hn]; have := HDS.out; omega
    obtain ⟨R, hRd⟩ : ∃ R, w3.heap.size = R := ⟨_, rfl⟩
    have hRq : q + 2 ≤ R := by rw [← hRd, ← S3.out]; exact hB.size
    have BW := Lib.hid (B2.out.trans (hB.mono B2.out.size))
    have C13 := Lib.hid (show w3.heap[q]? = some (.cells zCfg 30 (0, 0)) from by rw [hB.block q (by rw [S3.out]; omega)]; exact C1'.out)
    have P3 := Lib.hid (show PA w3 R (q + 1) ps0 from ⟨none, none, none, 0, 0, 0, by rw [hB.block (q + 1) (by rw [S3.out]; omega)]; exact C2.out, World.ownsRow_nil _ _ _ _, World.ownsRow_nil _ _ _ _, World.ownsRow_nil _ _ _ _, by omega, rfl, by decide⟩)
    have HT := Lib.hid (show ∀ wr, KP R (q + 1) w3 wr → HoldsT wr la n ts from fun wr hk => by
      rcases Nat.eq_zero_or_pos n with h0 | h0
      · exact ⟨hT.1, fun h => absurd h (by omega)⟩
      · obtain ⟨gb, go, hga, hgc⟩ := hT.at h0
        refine holds_kept hT fun g o hg => ?_
        have h1 := hlg g o hg
        rw [hga] at hg
        injection hg with hg
        injection hg with hg hg2
        have h2 := lt_of_cell (hgc 0 h0)
        rw [S3.out] at h1
        exact hk.mid g (by omega) (by rw [← hRd, ← hg]; exact h2))
    have HTS := Lib.hid (show ∀ i, i < n → ∃ t : Tx, ts.getD i ByteArray.empty = t ∧ t.size ≤ 300000 ∧ (linesL d).drop i = t.data.toList :: (linesL d).drop (i + 1) from fun i hi => by
      have hl : i < (linesL d).length := by omega
      have hl2 : i < ts.length := by rw [hT.len]; exact hi
      have h1 : ts[i].data.toList = (linesL d)[i] := by
        have h : (bytesL ts)[i]? = (linesL d)[i]? := by rw [hls]
        unfold bytesL at h
        rw [List.getElem?_map, List.getElem?_eq_getElem hl2, List.getElem?_eq_getElem hl] at h
        injection h
      refine ⟨ts[i], by rw [List.getD_eq_getElem?_getD, List.getElem?_eq_getElem hl2]; rfl, ?_, by rw [h1]; exact List.drop_eq_getElem_cons hl⟩
      have h2 := hlb.2 _ (List.getElem_mem hl)
      rw [← h1] at h2
      have h3 : ts[i].data.toList.length = ByteArray.size ts[i] := Array.length_toList
      have := HDS.out; omega)
    have HNL := Lib.hid hn
    have HRD := Lib.hid hRd
    clear hT hls hB hn hlg hlb hRd
    go_wp2_with fail
    go_loopw [16] (fun iv wr => ∃ (i : Nat) (st : PS), i ≤ n ∧ iv = .int .i64 i ∧ Hid (readF ps0 0 (linesL d) = readF st i ((linesL d).drop i)) ∧ Hid (PA wr R (q + 1) st) ∧ Hid (KP R (q + 1) w3 wr) ∧ Hid (st.ws.length ≤ i ∧ st.ks.length ≤ i ∧ st.es.length ≤ i)) (fun iv _ => n - (intOf iv).toNat)
    case atStart => exact ⟨0, ps0, by omega, rfl, Lib.hid rfl, P3, Lib.hid (KP.refl _ _ _), Lib.hid (by decide)⟩
    case round =>
      clear P3
      obtain ⟨i, st, hi, rfl, hF, hP, hK, hL⟩ := hrel
      have CQ := Lib.hid (show wr.heap[q]? = some (.cells zCfg 30 (0, 0)) from by rw [hK.out.bel.block q (by omega)]; exact C13.out)
      have BR := Lib.hid (BW.out.trans (hK.out.bel.mono (by rw [HQ.out]; omega)))
      by_cases hlt : i < n
      · obtain ⟨t, ht, hts, hdr⟩ := HTS.out i hlt
        obtain ⟨lb, lo, rfl, hcc⟩ := (HT.out wr hK.out).at (by omega)
        have x0 := hcc i hlt
        rw [ht] at x0
        obtain ⟨o, ho⟩ : ∃ o, lineF st t.data.toList = o := ⟨_, rfl⟩
        have hR : R ≤ wr.heap.size := by rw [← HRD.out]; exact hK.out.bel.size
        have LI := Lib.hid (line_any R (q + 1) st t wr hP.out hR hts (HM.out.below BR.out (Nat.le_refl _)) (by have := hL.out; omega) (by have := hL.out; omega) (by have := hL.out; omega))
        rw [ho] at LI
        have hF2 := hF.out
        rw [hdr] at hF2
        have n2 : (i : Int) < (n : Int) := by omega
        cases o with
        | none =>
          rw [readF_no ho] at hF2
          have HE := Lib.hid (HPN.out i hF2)
          clear ht hdr hcc ho hF hF2 hP hL hR
          go_wp2_with fail
          refine LI.out.mono ?_
          intro e w5 h5
          have he := h5.ret
          subst he
          have C5 := Lib.hid (show w5.heap[q]? = some (.cells zCfg 30 (0, 0)) from by rw [h5.1.bel.block q (by omega)]; exact CQ.out)
          have B5 := Lib.hid (BR.out.trans (h5.1.bel.mono (by rw [HQ.out]; omega)))
          have g1 : IntKind.i64.wrap ((i : Int) + 1) = ((i + 1 : Nat) : Int) := by rw [IntWalk.i64_in _ (by omega)]; omega
          clear h5
          go_wp2_with (first | (refine wpList_store_row rfl 30 (.tmp 2) (.tmp 24) rfl q #[.slice none 0 0, .slice none 0 0, .int .i64 0, .int .i64 0, .int .i64 0, .int .i64 0, .int .i64 0, .int .i64 0, .int .i64 0, .int .i64 0, .int .i64 0, .int .i64 0] rfl rfl 30 zCfg C5.out cfg_size rfl (by simp [Value.oneCell']) ?_) | fail)
          (try simp only [Exit.inBlock, Exit.then])
          refine bodyPost_ret (results_cell4 rfl _ _ q _ _ _ _ rfl rfl rfl rfl (run_loadVar_row _ q 30 30 #[.slice none 0 0, .slice none 0 0, .int .i64 0, .int .i64 0, .int .i64 0, .int .i64 0, .int .i64 0, .int .i64 0, .int .i64 0, .int .i64 0, .int .i64 0, .int .i64 0] (0, 0) _ (setRow_heap _ q _ _ _ _ C5.out) Tryd.underlying30 rfl cfg_size)) rfl ?_
          rw [HE.out]
          exact ⟨none, none, none, 0, 0, 0, rfl, parsed_zero _ _, below_rowS B5.out (by rw [HQ.out]; exact Nat.le_refl _) _⟩
        | some st2 =>
          have hg := lineF_grow ho
          have L2 := Lib.hid (show st2.ws.length ≤ i + 1 ∧ st2.ks.length ≤ i + 1 ∧ st2.es.length ≤ i + 1 from by have := hL.out; omega)
          rw [readF_yes ho] at hF2
          have F2 := Lib.hid hF2
          clear ht hdr hcc ho hF hF2 hP hL hR hg
          go_wp2_with fail
          refine LI.out.mono ?_
          intro e w5 h5
          have he := h5.ret
          subst he
          have K5 := Lib.hid (hK.out.trans h5.1)
          have P5 := Lib.hid h5.2.2
          clear h5
          go_wp2_with fail
          go_roundw
          case rel => exact ⟨i + 1, st2, by omega, by go_num, F2, P5, K5, L2⟩
          case measure => simp [intOf] <;> omega
      · obtain rfl : i = n := by omega
        have hF2 := hF.out
        rw [List.drop_eq_nil_of_le (by rw [← HNL.out]; exact Nat.le_refl _)] at hF2
        have HE := Lib.hid (HPY.out st hF2)
        obtain ⟨wa, ka, ea, wc, kc, ec, hq⟩ := hP.out
        have HPP := Lib.hid hq
        clear hF hF2 hP hq
        go_upto_region 10 with fail
        have KX := Lib.hid (fun (w' : World) (h : w'.heap[q + 1]? = wr.heap[q + 1]?) => (show w'.cell? ⟨q + 1, 0, none⟩ = some (.slice wa st.ws.length wc) ∧ w'.cell? ⟨q + 1, 1, none⟩ = some (.slice ka st.ks.length kc) ∧ w'.cell? ⟨q + 1, 2, none⟩ = some (.int .i64 (st.ns.getD 0 0)) ∧ w'.cell? ⟨q + 1, 3, none⟩ = some (.int .i64 (st.ns.getD 1 0)) ∧ w'.cell? ⟨q + 1, 4, none⟩ = some (.int .i64 (st.ns.getD 2 0)) ∧ w'.cell? ⟨q + 1, 5, none⟩ = some (.int .i64 (st.ns.getD 3 0)) ∧ w'.cell? ⟨q + 1, 6, none⟩ = some (.int .i64 (st.ns.getD 4 0)) ∧ w'.cell? ⟨q + 1, 7, none⟩ = some (.int .i64 (st.ns.getD 5 0)) ∧ w'.cell? ⟨q + 1, 8, none⟩ = some (.int .i64 (st.ns.getD 6 0)) ∧ w'.cell? ⟨q + 1, 9, none⟩ = some (.int .i64 (st.ns.getD 7 0)) ∧ w'.cell? ⟨q + 1, 10, none⟩ = some (.int .i64 (st.ns.getD 8 0)) ∧ w'.cell? ⟨q + 1, 11, none⟩ = some (.int .i64 (st.ns.getD 9 0)) ∧ w'.cell? ⟨q + 1, 12, none⟩ = some (.slice ea st.es.length ec) from by
          have h2 := h.trans HPP.out.blk
          refine ⟨?_, ?_, ?_, ?_, ?_, ?_, ?_, ?_, ?_, ?_, ?_, ?_, ?_⟩ <;> (rw [Lib.cell_of_heap h2]; rfl)))
        have hS0 := KX.out wr.drew rfl
        refine wp_region_held_drew (S := (fun w' => w'.cell? ⟨q + 1, 0, none⟩ = some (.slice wa st.ws.length wc) ∧ w'.cell? ⟨q + 1, 1, none⟩ = some (.slice ka st.ks.length kc) ∧ w'.cell? ⟨q + 1, 2, none⟩ = some (.int .i64 (st.ns.getD 0 0)) ∧ w'.cell? ⟨q + 1, 3, none⟩ = some (.int .i64 (st.ns.getD 1 0)) ∧ w'.cell? ⟨q + 1, 4, none⟩ = some (.int .i64 (st.ns.getD 2 0)) ∧ w'.cell? ⟨q + 1, 5, none⟩ = some (.int .i64 (st.ns.getD 3 0)) ∧ w'.cell? ⟨q + 1, 6, none⟩ = some (.int .i64 (st.ns.getD 4 0)) ∧ w'.cell? ⟨q + 1, 7, none⟩ = some (.int .i64 (st.ns.getD 5 0)) ∧ w'.cell? ⟨q + 1, 8, none⟩ = some (.int .i64 (st.ns.getD 6 0)) ∧ w'.cell? ⟨q + 1, 9, none⟩ = some (.int .i64 (st.ns.getD 7 0)) ∧ w'.cell? ⟨q + 1, 10, none⟩ = some (.int .i64 (st.ns.getD 8 0)) ∧ w'.cell? ⟨q + 1, 11, none⟩ = some (.int .i64 (st.ns.getD 9 0)) ∧ w'.cell? ⟨q + 1, 12, none⟩ = some (.slice ea st.es.length ec))) (by kernel_rfl) hS0 (fun hHeld0 => ?_)
        clear hS0
        have CQ0 := Lib.hid (show wr.drew.heap[q]? = _ from CQ.out)
        have BR0 := Lib.hid (show Below w.heap.size w wr.drew from BR.out.drew)
        have HP0 := Lib.hid (show ParAt wr.drew R (q + 1) wa ka ea wc kc ec st from HPP.out.below (Below.refl _ _).drew)
        have KX0 := Lib.hid (show ∀ cs, (wr.drew.setRow q cs).heap[q + 1]? = wr.heap[q + 1]? from fun cs => setRow_other wr.drew q (q + 1) cs (by omega))
        generalize wr.drew = X0 at *
        refine wpAnyH_take (i := 0) (oi := { dst := some 28, op := Op.fieldAddr 77 (Operand.tmp 6) 0, type := 0, pos := "script.go:51", after := #[], guard := none }) (v := ?vz1) rfl (by kernel_rfl) (by kernel_rfl) (by kernel_rfl) (fun _ _ _ h => h) (Or.inl ⟨by rfl, ?hyz1⟩) (by assumption) ?restz1
        case hyz1 => (intro w hSw; (try dsimp only at hSw); go_simp; (try with_reducible rfl))
        try simp only [Act.put, List.setIfInBounds_toArray, List.set_cons_zero, List.set_cons_succ]
        refine wpAnyH_take (i := 1) (oi := { dst := some 29, op := Op.load 30 (Operand.tmp 28), type := 30, pos := "script.go:51", after := #[{ on := 0, ground := Ground.data }], guard := none }) (v := ?vz2) rfl (by kernel_rfl) (by kernel_rfl) (by kernel_rfl) (fun _ _ _ h => h) (Or.inl ⟨by rfl, ?hyz2⟩) (by assumption) ?restz2
        case hyz2 => (intro w hSw; (try dsimp only at hSw); go_simp; (try with_reducible rfl))
        try simp only [Act.put, List.setIfInBounds_toArray, List.set_cons_zero, List.set_cons_succ]
        refine wpAnyH_take (i := 2) (oi := { dst := some 30, op := Op.fieldAddr 77 (Operand.tmp 6) 1, type := 0, pos := "script.go:51", after := #[{ on := 4, ground := Ground.gcOnly Departure.lateStores }], guard := none }) (v := ?vz3) rfl (by kernel_rfl) (by kernel_rfl) (by kernel_rfl) (fun _ _ _ h => h) (Or.inl ⟨by rfl, ?hyz3⟩) (by assumption) ?restz3
        case hyz3 => (intro w hSw; (try dsimp only at hSw); go_simp; (try with_reducible rfl))
        try simp only [Act.put, List.setIfInBounds_toArray, List.set_cons_zero, List.set_cons_succ]
        refine wpAnyH_take (i := 3) (oi := { dst := some 31, op := Op.load 31 (Operand.tmp 30), type := 31, pos := "script.go:51", after := #[{ on := 2, ground := Ground.data }, { on := 4, ground := Ground.gcOnly Departure.lateStores }], guard := none }) (v := ?vz4) rfl (by kernel_rfl) (by kernel_rfl) (by kernel_rfl) (fun _ _ _ h => h) (Or.inl ⟨by rfl, ?hyz4⟩) (by assumption) ?restz4
        case hyz4 => (intro w hSw; (try dsimp only at hSw); go_simp; (try with_reducible rfl))
        try simp only [Act.put, List.setIfInBounds_toArray, List.set_cons_zero, List.set_cons_succ]
        refine wpAnyH_ready (rs := [4]) (by kernel_rfl) (by simp) ?_
        refine AllReadyH.cons (o := { dst := none, op := Op.store 30 (Operand.tmp 2) (Operand.tmp 29), type := 0, pos := "script.go:51", after := #[{ on := 1, ground := Ground.data }, { on := 0, ground := Ground.phase }, { on := 1, ground := Ground.phase }, { on := 2, ground := Ground.textOnly Departure.lateStores }, { on := 3, ground := Ground.textOnly Departure.lateStores }], guard := none }) rfl (fun K hK => ?_) AllReadyH.nil
        · rw [if_pos (by rfl)]
          refine wp_store_row 30 _ _ rfl q #[.slice wa st.ws.length wc, .slice ka st.ks.length kc, .int .i64 (st.ns.getD 0 0), .int .i64 (st.ns.getD 1 0), .int .i64 (st.ns.getD 2 0), .int .i64 (st.ns.getD 3 0), .int .i64 (st.ns.getD 4 0), .int .i64 (st.ns.getD 5 0), .int .i64 (st.ns.getD 6 0), .int .i64 (st.ns.getD 7 0), .int .i64 (st.ns.getD 8 0), .int .i64 (st.ns.getD 9 0)] (by rfl) (by rfl) 30 zCfg CQ0.out cfg_size rfl (by simp [Value.oneCell']) ?_
          refine hK.out _ _ (KX.out _ (KX0.out _)) (fun hHeldE => ?_)
          clear hK K hHeld0
          try simp only [Act.put]
          refine wpAnyH_take (i := 5) (oi := { dst := some 3, op := Op.assign (Operand.tmp 31), type := 31, pos := "script.go:51", after := #[{ on := 3, ground := Ground.data }, { on := 4, ground := Ground.chain }, { on := 0, ground := Ground.phase }, { on := 1, ground := Ground.phase }, { on := 2, ground := Ground.phase }, { on := 3, ground := Ground.phase }, { on := 4, ground := Ground.phase }], guard := none }) (v := ?vz5) rfl (by kernel_rfl) (by kernel_rfl) (by kernel_rfl) (fun _ _ _ h => h) (Or.inl ⟨by rfl, ?hyz5⟩) (by assumption) ?restz5
          case hyz5 => (intro w hSw; (try dsimp only at hSw); go_simp; (try with_reducible rfl))
          try simp only [Act.put, List.setIfInBounds_toArray, List.set_cons_zero, List.set_cons_succ]
          refine wpAnyH_take (i := 6) (oi := { dst := some 4, op := Op.assign (Operand.const (Value.int IntKind.i64 0)), type := 3, pos := "script.go:51", after := #[{ on := 5, ground := Ground.chain }, { on := 0, ground := Ground.phase }, { on := 1, ground := Ground.phase }, { on := 2, ground := Ground.phase }, { on := 3, ground := Ground.phase }, { on := 4, ground := Ground.phase }, { on := 5, ground := Ground.phase }], guard := none }) (v := ?vz6) rfl (by kernel_rfl) (by kernel_rfl) (by kernel_rfl) (fun _ _ _ h => h) (Or.inl ⟨by rfl, ?hyz6⟩) (by assumption) ?restz6
          case hyz6 => (intro w hSw; (try dsimp only at hSw); go_simp; (try with_reducible rfl))
          try simp only [Act.put, List.setIfInBounds_toArray, List.set_cons_zero, List.set_cons_succ]
          refine wpAnyH_take (i := 7) (oi := { dst := some 5, op := Op.assign (Operand.const (Value.int IntKind.i64 0)), type := 34, pos := "script.go:51", after := #[{ on := 6, ground := Ground.chain }, { on := 0, ground := Ground.phase }, { on := 1, ground := Ground.phase }, { on := 2, ground := Ground.phase }, { on := 3, ground := Ground.phase }, { on := 4, ground := Ground.phase }, { on := 5, ground := Ground.phase }, { on := 6, ground := Ground.phase }], guard := none }) (v := ?vz7) rfl (by kernel_rfl) (by kernel_rfl) (by kernel_rfl) (fun _ _ _ h => h) (Or.inl ⟨by rfl, ?hyz7⟩) (by assumption) ?restz7
          case hyz7 => (intro w hSw; (try dsimp only at hSw); go_simp; (try with_reducible rfl))
          try simp only [Act.put, List.setIfInBounds_toArray, List.set_cons_zero, List.set_cons_succ]
          refine wpAnyH_done (by kernel_rfl) ?_ _
          go_wp2_with fail
          (try simp only [Exit.then])
          refine bodyPost_ret (results_cell4 rfl _ _ q _ _ _ _ rfl rfl rfl rfl (run_loadVar_row _ q 30 30 #[.slice wa st.ws.length wc, .slice ka st.ks.length kc, .int .i64 (st.ns.getD 0 0), .int .i64 (st.ns.getD 1 0), .int .i64 (st.ns.getD 2 0), .int .i64 (st.ns.getD 3 0), .int .i64 (st.ns.getD 4 0), .int .i64 (st.ns.getD 5 0), .int .i64 (st.ns.getD 6 0), .int .i64 (st.ns.getD 7 0), .int .i64 (st.ns.getD 8 0), .int .i64 (st.ns.getD 9 0)] (0, 0) _ (setRow_heap _ q _ _ _ _ CQ0.out) Tryd.underlying30 rfl cfg_size)) rfl ?_
          rw [HE.out]
          exact ⟨wa, ka, ea, wc, kc, ec, rfl, HP0.out.parsed (grown_rowS _ q _) (by omega) (by rw [HQ.out]; omega), below_rowS BR0.out (by rw [HQ.out]; exact Nat.le_refl _) _⟩
end Go.Proofs.YtmddnklafplikaaDoor
namespace Go.Proofs.YtmddnklafplikaaDoor
open Go.RowKit
set_option linter.unusedVariables false
set_option maxRecDepth 20000
theorem ssEvents (x : ByteArray) : (x.toList == x.toList) = true := by simp
set_option maxHeartbeats 1600000 in
theorem sameEvents_quiet (a1 a2 : Option Addr) (n c1 c2 : Nat) (z : List EvP) (w : World) (h1 : HoldsEv w a1 n z) (h2 : HoldsEv w a2 n z) (hl : n ≤ 4611686018427387904) :
    Calls Tryd.prog 20 #[.slice a1 n c1, .slice a2 n c2] w fun e w' => e = .returned (.bool true) ∧ ∃ m, w' = w.drewN m := by
  have H1 := Lib.hid h1; have H2 := Lib.hid h2
  have hb : ((n : Int) != (n : Int)) = false := by simp
  clear h1 h2
  go_enter Tryd.func20, Tryd.ntmps20
  go_wp2
  go_loopw [5] (fun i wr => ∃ k m : Nat, k ≤ n ∧ i = .int .i64 k ∧ wr = w.drewN m) (fun i _ => n - (intOf i).toNat)
  case atStart => exact ⟨0, 0, by omega, rfl, rfl⟩
  case round =>
    obtain ⟨k, m, hk, rfl, rfl⟩ := hrel
    by_cases hlt : k < n
    · obtain ⟨b1, o1, rfl, k1⟩ := H1.out.at (by omega)
      obtain ⟨b2, o2, rfl, k2⟩ := H2.out.at (by omega)
      obtain ⟨e0, e1, e2, e3, e4, e5, e6⟩ := k1 k hlt
      obtain ⟨g0, g1, g2, g3, g4, g5, g6⟩ := k2 k hlt
      obtain ⟨x, hx⟩ : ∃ x, z.getD k ev0 = x := ⟨_, rfl⟩
      rw [hx] at e0 e1 e2 e3 e4 e5 e6 g0 g1 g2 g3 g4 g5 g6
      obtain ⟨x1, x2, x3, x4, x5, x6, x7⟩ := x
      simp only at e0 e1 e2 e3 e4 e5 e6 g0 g1 g2 g3 g4 g5 g6
      have f0 : (x1 == x1) = true := by simp
      have f1 : (x2 == x2) = true := by simp
      have f2 : (x3 == x3) = true := by simp
      have f3 : (x4 == x4) = true := by simp
      have f4 := ssEvents x5
      have f5 : (x6 == x6) = true := by simp
      have f6 : (x7 == x7) = true := by simp
      clear hx k1 k2
      go_wp2
      go_quiet (fail)
      go_wp2
      go_roundw
      case rel => exact ⟨k + 1, _, by omega, by go_num, rfl⟩
      case measure => simp [intOf]; omega
    · go_wp2
      go_ret
      exact ⟨rfl, _, rfl⟩
theorem sameEvents_yes (a1 a2 : Option Addr) (n c1 c2 : Nat) (z : List EvP) (w : World) (h1 : HoldsEv w a1 n z) (h2 : HoldsEv w a2 n z) (hl : n ≤ 4611686018427387904) :
    Calls Tryd.prog 20 #[.slice a1 n c1, .slice a2 n c2] w fun e w' => e = .returned (.bool true) ∧ Below w.heap.size w w' :=
  (sameEvents_quiet a1 a2 n c1 c2 z w h1 h2 hl).mono fun _ _ ⟨h, m, hm⟩ => ⟨h, by rw [hm]; exact below_drewN _ _⟩
end Go.Proofs.YtmddnklafplikaaDoor
namespace Go.Proofs.YtmddnklafplikaaDoor
open Go.RowKit
set_option linter.unusedVariables false
set_option maxRecDepth 20000
def ab29 : Tx := { data := #[97, 98] }
def a29 : Tx := { data := #[97] }
def e0_29 : Tx := { data := #[] }
def lit1 : ByteArray := { data := #[119, 111, 114, 100, 32, 34, 97, 98, 34, 10, 99, 117, 116, 32, 50, 32, 34, 34, 10, 101, 118, 32, 52, 32, 49, 32, 48, 32, 48, 10, 97, 115, 107, 32, 34, 97, 34, 32, 49, 32, 50, 10] }
def lit2 : ByteArray := { data := #[119, 111, 114, 100, 32, 34, 97, 98, 34, 10, 101, 118, 32, 49, 32, 48, 32, 48, 32, 48] }
def st29 : PS := ⟨[ab29], [(2, e0_29)], [0, 0, 0, 0, 0, 0, 0, 0, 0, 0], [⟨4, 1, 0, 0, e0_29, 0, 0⟩, ⟨1, 0, 0, 0, a29, 1, 2⟩]⟩
theorem dec1 (i : Nat) (h : i < 10) : decI (i : Int) = [UInt8.ofNat (48 + i)] := by unfold decI; rw [Int.toNat_natCast]; exact Lib.decDigits_one h
theorem d0 : decI 0 = [48] := dec1 0 (by omega)
theorem d1 : decI 1 = [49] := dec1 1 (by omega)
theorem d2 : decI 2 = [50] := dec1 2 (by omega)
theorem d4 : decI 4 = [52] := dec1 4 (by omega)
theorem ln1 (st : PS) : lineF st [119, 111, 114, 100, 32, 34, 97, 98, 34] = some { st with ws := st.ws ++ [ab29] } := by
  have h := line_word st ab29
  rwa [show lineB (wordQ ab29) = [119, 111, 114, 100, 32, 34, 97, 98, 34] from by decide] at h
theorem ln2 (st : PS) : lineF st [99, 117, 116, 32, 50, 32, 34, 34] = some { st with ks := st.ks ++ [(2, e0_29)] } := by
  have h := line_cut st (2, e0_29) (by decide)
  rwa [show lineB (cutQ (2, e0_29)) = [99, 117, 116, 32, 50, 32, 34, 34] from by unfold lineB cutQ; simp only [d2]; decide] at h
theorem ln3 (st : PS) : lineF st [101, 118, 32, 52, 32, 49, 32, 48, 32, 48] = some { st with es := st.es ++ [⟨4, 1, 0, 0, e0_29, 0, 0⟩] } := by
  have h := line_ev st ⟨4, 1, 0, 0, e0_29, 0, 0⟩ (by decide)
  rwa [show lineB (evQ ⟨4, 1, 0, 0, e0_29, 0, 0⟩) = [101, 118, 32, 52, 32, 49, 32, 48, 32, 48] from by unfold lineB evQ nosEv; rw [if_neg (by decide)]; simp only [List.map_cons, List.map_nil, d0, d1, d4]; decide] at h
theorem ln4 (st : PS) : lineF st [97, 115, 107, 32, 34, 97, 34, 32, 49, 32, 50] = some { st with es := st.es ++ [⟨1, 0, 0, 0, a29, 1, 2⟩] } := by
  have h := line_ev st ⟨1, 0, 0, 0, a29, 1, 2⟩ (by decide)
  rwa [show lineB (evQ ⟨1, 0, 0, 0, a29, 1, 2⟩) = [97, 115, 107, 32, 34, 97, 34, 32, 49, 32, 50] from by unfold lineB evQ; rw [if_pos rfl]; simp only [d1, d2]; decide] at h
theorem ln5 (st : PS) : lineF st [101, 118, 32, 49, 32, 48, 32, 48, 32, 48] = none := by
  have ok : partOk (evB :: [1, 0, 0, 0].map decI) := ⟨by simp, fun p hp => by
    rcases List.mem_cons.1 hp with rfl | hp
    · decide
    · exact decs_ok [1, 0, 0, 0] p hp⟩
  have h := lineF_parts st evB ([1, 0, 0, 0].map decI) ok
  rw [show lineB (evB :: [1, 0, 0, 0].map decI) = [101, 118, 32, 49, 32, 48, 32, 48, 32, 48] from by unfold lineB; simp only [List.map_cons, List.map_nil, d0, d1]; decide] at h
  rw [h]
  unfold partsF
  rw [if_neg (by decide), if_neg (by decide), if_neg (by decide), if_pos rfl]
  unfold evF numsK
  rw [if_pos (by simp), numsO_dec [1, 0, 0, 0] (by decide)]
  rfl
theorem parse1 : parseF lit1.data.toList = (st29, 0, 0) := by
  refine parse_ok (by decide) ?_
  rw [show linesL lit1.data.toList = [[119, 111, 114, 100, 32, 34, 97, 98, 34], [99, 117, 116, 32, 50, 32, 34, 34], [101, 118, 32, 52, 32, 49, 32, 48, 32, 48], [97, 115, 107, 32, 34, 97, 34, 32, 49, 32, 50]] from by decide]
  rw [readF_yes (ln1 _), readF_yes (ln2 _), readF_yes (ln3 _), readF_yes (ln4 _)]
  rfl
theorem parse2 : parseF lit2.data.toList = (ps0, 2, 11) := by
  refine parse_bad (by decide) ?_
  rw [show linesL lit2.data.toList = [[119, 111, 114, 100, 32, 34, 97, 98, 34], [101, 118, 32, 49, 32, 48, 32, 48, 32, 48]] from by decide]
  rw [readF_yes (ln1 _), readF_no (ln5 _)]
theorem quote_ab : quoS { data := #[97, 32, 98] } = { data := #[34, 97, 92, 50, 48, 98, 34] } := by
  apply ByteArray.ext; apply Array.toList_inj.1
  show quoL [97, 32, 98] = _
  decide
theorem parP1 {w w' : World} {e : Ending} (h : ParP w (st29, 0, 0) e w') : ∃ wa ka ea wc kc ec, e = .returned (.tuple #[.agg #[.slice wa 1 wc, .slice ka 1 kc, .int .i64 0, .int .i64 0, .int .i64 0, .int .i64 0, .int .i64 0, .int .i64 0, .int .i64 0, .int .i64 0, .int .i64 0, .int .i64 0], .slice ea 2 ec, .int .i64 0, .int .i64 0]) ∧ HoldsT w' wa 1 [ab29] ∧ HoldsEv w' ea 2 [⟨4, 1, 0, 0, e0_29, 0, 0⟩, ⟨1, 0, 0, 0, a29, 1, 2⟩] ∧ Below w.heap.size w w' := by
  obtain ⟨wa, ka, ea, wc, kc, ec, he, hp, hb⟩ := h
  exact ⟨wa, ka, ea, wc, kc, ec, he, HoldsT.own hp.rw, HoldsEv.own hp.re, hb⟩
theorem parP2 {w w' : World} {e : Ending} (h : ParP w (ps0, 2, 11) e w') : ∃ wa ka ea wc kc ec, e = .returned (.tuple #[.agg #[.slice wa 0 wc, .slice ka 0 kc, .int .i64 0, .int .i64 0, .int .i64 0, .int .i64 0, .int .i64 0, .int .i64 0, .int .i64 0, .int .i64 0, .int .i64 0, .int .i64 0], .slice ea 0 ec, .int .i64 2, .int .i64 11]) ∧ Below w.heap.size w w' := by
  obtain ⟨wa, ka, ea, wc, kc, ec, he, hp, hb⟩ := h
  exact ⟨wa, ka, ea, wc, kc, ec, he, hb⟩
theorem holdsT_one (w : World) (t : Tx) (e : TypeId) (fr : Nat × Nat) : HoldsT (w.alloc (.cells #[.string t] e fr)) (some ⟨w.heap.size, 0, none⟩) 1 [t] := HoldsT.of rfl fun i hi => by
  obtain rfl : i = 0 := by omega
  rw [World.cell?_alloc_mark]; rfl
theorem holdsEv_two (w : World) (e : TypeId) (fr : Nat × Nat) : HoldsEv (w.alloc (.cells #[.int .i64 4, .int .i64 1, .int .i64 0, .int .i64 0, .string { data := #[] }, .int .i64 0, .int .i64 0, .int .i64 1, .int .i64 0, .int .i64 0, .int .i64 0, .string { data := #[97] }, .int .i64 1, .int .i64 2] e fr)) (some ⟨w.heap.size, 0, none⟩) 2 [⟨4, 1, 0, 0, e0_29, 0, 0⟩, ⟨1, 0, 0, 0, a29, 1, 2⟩] := by
  refine ⟨rfl, fun _ => ⟨_, 0, rfl, fun i hi => ?_⟩⟩
  simp only [World.cell?_alloc_mark]
  match i, hi with
  | 0, _ => exact ⟨rfl, rfl, rfl, rfl, rfl, rfl, rfl⟩
  | 1, _ => exact ⟨rfl, rfl, rfl, rfl, rfl, rfl, rfl⟩
set_option maxRecDepth 100000 in
set_option maxHeartbeats 1600000 in
theorem awake29_any (w : World) (hm : MaxL w) : Calls Tryd.prog 8 #[] w fun e w' => e = .returned (.bool true) ∧ Below w.heap.size w w' := by
  have C1 := Lib.hid (fun w' (h : MaxL w') => parse_any lit1 w' (by decide) h)
  have C2 := Lib.hid (fun w' (h : MaxL w') => parse_any lit2 w' (by decide) h)
  rw [parse1] at C1
  rw [parse2] at C2
  have CQ := Lib.hid (fun w => quote_any { data := #[97, 32, 98] } w (by decide))
  rw [quote_ab] at CQ
  have HM := Lib.hid hm
  unfold lit1 at C1
  unfold lit2 at C2
  clear hm
  go_enter Tryd.func8, Tryd.ntmps8
  go_wp2_with fail
  refine (C1.out _ HM.out).mono ?_
  intro e w1 h1
  obtain ⟨wa, ka, ea, wc, kc, ec, rfl, hT, hE, hb1⟩ := parP1 h1
  have B1 := Lib.hid hb1
  have M1 := Lib.hid (HM.out.below hb1 (Nat.le_refl _))
  have HT := Lib.hid hT; have HE := Lib.hid hE
  clear h1 hb1 hT hE
  go_upto_region 2 with fail
  have A2 := Lib.hid (below_one w1 (.cells #[.slice wa 1 wc, .slice ka 1 kc, .int .i64 0, .int .i64 0, .int .i64 0, .int .i64 0, .int .i64 0, .int .i64 0, .int .i64 0, .int .i64 0, .int .i64 0, .int .i64 0] 30))
  have c0 : (w1.alloc (.cells #[.slice wa 1 wc, .slice ka 1 kc, .int .i64 0, .int .i64 0, .int .i64 0, .int .i64 0, .int .i64 0, .int .i64 0, .int .i64 0, .int .i64 0, .int .i64 0, .int .i64 0] 30)).cell? ⟨w1.heap.size, 0, none⟩ = some (.slice wa 1 wc) := by rw [World.cell?_alloc_mark]; rfl
  obtain ⟨q, hq⟩ : ∃ q, w1.heap.size = q := ⟨_, rfl⟩
  generalize w1.alloc (.cells #[.slice wa 1 wc, .slice ka 1 kc, .int .i64 0, .int .i64 0, .int .i64 0, .int .i64 0, .int .i64 0, .int .i64 0, .int .i64 0, .int .i64 0, .int .i64 0, .int .i64 0] 30) = w2 at *
  have B2 := Lib.hid (B1.out.trans (A2.out.mono B1.out.size))
  have HT2 := Lib.hid (HT.out.below A2.out)
  have HE2 := Lib.hid (HE.out.below A2.out)
  have M2 := Lib.hid (M1.out.below A2.out (Nat.le_refl _))
  rw [hq] at c0 ⊢
  clear HT HE M1 B1 A2 hq
  go_wp2_with fail
  refine (C2.out _ M2.out).mono ?_
  intro e w3 h3
  obtain ⟨va, la, fa, vc, lc, fc, rfl, hb3⟩ := parP2 h3
  have c1 := (hb3.cell (p := ⟨q, 0, none⟩) (lt_of_cell c0)).trans c0
  have B3 := Lib.hid (B2.out.trans (hb3.mono B2.out.size))
  have HT3 := Lib.hid (HT2.out.below hb3)
  have HE3 := Lib.hid (HE2.out.below hb3)
  clear h3 hb3 c0 HT2 HE2 M2 B2
  go_upto_region 3 with fail
  have A4 := Lib.hid (below_one w3 (.cells #[.slice va 0 vc, .slice la 0 lc, .int .i64 0, .int .i64 0, .int .i64 0, .int .i64 0, .int .i64 0, .int .i64 0, .int .i64 0, .int .i64 0, .int .i64 0, .int .i64 0] 30))
  obtain ⟨q3, hq3⟩ : ∃ q, w3.heap.size = q := ⟨_, rfl⟩
  generalize w3.alloc (.cells #[.slice va 0 vc, .slice la 0 lc, .int .i64 0, .int .i64 0, .int .i64 0, .int .i64 0, .int .i64 0, .int .i64 0, .int .i64 0, .int .i64 0, .int .i64 0, .int .i64 0] 30) = w4 at *
  have c2 := (A4.out.cell (p := ⟨q, 0, none⟩) (lt_of_cell c1)).trans c1
  have B4 := Lib.hid (B3.out.trans (A4.out.mono B3.out.size))
  have HT4 := Lib.hid (HT3.out.below A4.out)
  have HE4 := Lib.hid (HE3.out.below A4.out)
  rw [hq3]
  clear c1 HT3 HE3 B3 A4 hq3
  have CT := Lib.hid (sameTexts_yes wa (some ⟨w4.heap.size, 0, none⟩) 1 wc 1 [ab29] _ (HT4.out.below (below_one w4 (.cells #[.string ab29] 9))) (holdsT_one w4 ab29 9 (0, 0)) (by omega))
  unfold ab29 at CT
  go_wp2_with fail
  refine CT.out.mono ?_
  rintro e w5 ⟨rfl, hb5⟩
  have B5 := Lib.hid ((B4.out.trans ((below_one w4 _).mono B4.out.size)).trans (hb5.mono (Nat.le_trans B4.out.size (below_one w4 _).size)))
  have HE5 := Lib.hid ((HE4.out.below (below_one w4 _)).below hb5)
  clear hb5 CT HT4 HE4 c2
  have CE := Lib.hid (sameEvents_yes ea (some ⟨w5.heap.size, 0, none⟩) 2 ec 2 _ _ (HE5.out.below (below_one w5 (.cells #[.int .i64 4, .int .i64 1, .int .i64 0, .int .i64 0, .string { data := #[] }, .int .i64 0, .int .i64 0, .int .i64 1, .int .i64 0, .int .i64 0, .int .i64 0, .string { data := #[97] }, .int .i64 1, .int .i64 2] 50))) (holdsEv_two w5 50 (0, 0)) (by omega))
  go_wp2_with fail
  refine CE.out.mono ?_
  rintro e w6 ⟨rfl, hb6⟩
  have B6 := Lib.hid ((B5.out.trans ((below_one w5 _).mono B5.out.size)).trans (hb6.mono (Nat.le_trans B5.out.size (below_one w5 _).size)))
  clear hb6 CE HE5
  go_wp2_with fail
  refine (CQ.out _).mono ?_
  rintro e w7 ⟨rfl, hb7⟩
  have B7 := Lib.hid (B6.out.trans (hb7.mono B6.out.size))
  clear hb7
  go_wp2_with fail
  go_ret
  exact ⟨rfl, B7.out⟩
end Go.Proofs.YtmddnklafplikaaDoor
namespace Go.Proofs.YtmddnklafplikaaDoor
open Go.RowKit
set_option linter.unusedVariables false
set_option maxRecDepth 20000
open Go.ChangeShapes Go.WideShapes Go.ChangeAt in
theorem maxL_of {W : World} (h : W.ShapedOpen Tryd.prog) : MaxL W :=
  cell_of_shapedOpen_int (g := 0) (t := 3) (zero := #[.int .i64 0]) (k := .i64) h (of_decide_eq_true (by kernel_rfl)) (by kernel_rfl) rfl (by kernel_rfl) (by kernel_rfl) Tryd.underlying3
end Go.Proofs.YtmddnklafplikaaDoor
namespace Go.Proofs.YtmddnklafplikaaDoor
open Go.RowKit
set_option linter.unusedVariables false
set_option maxRecDepth 20000
set_option maxRecDepth 100000 in
set_option maxHeartbeats 1600000 in
theorem scriptQuotes_any (s t : ByteArray) (w : World) (hs : s.size ≤ 9223372036854775807) (ht : t.size ≤ 9223372036854775807) (hm : MaxL w) :
    Calls Tryd.prog 3 #[.string s, .string t] w fun e w' => e = .returned (.bool true) ∧ Below w.heap.size w w' := by
  have AW := Lib.hid (fun w3 (hb : Below w.heap.size w w3) => (awake29_any w3 (hm.below hb (Nat.le_refl _))).mono (fun e w' h => (show e = .returned (.bool true) ∧ Below w.heap.size w w' from ⟨h.1, hb.trans (h.2.mono hb.size)⟩)))
  obtain ⟨n, hn⟩ : ∃ n, s.size = n := ⟨_, rfl⟩
  obtain ⟨m, hmm⟩ : ∃ n, t.size = n := ⟨_, rfl⟩
  clear hm
  by_cases h1 : 500 < n
  · have d1 : decide ((n : Int) > 500) = true := decide_eq_true (by omega)
    have d2 : decide (500 < n) = true := decide_eq_true h1
    go_enter Tryd.func3, Tryd.ntmps3
    go_wp2_with fail
    refine (AW.out _ (Below.refl _ _)).mono ?_
    rintro e w' ⟨rfl, hb⟩
    go_wp2_with fail
    go_ret
    exact ⟨rfl, hb⟩
  have d1 : decide ((n : Int) > 500) = false := decide_eq_false (by omega)
  have d2 : decide (500 < n) = false := decide_eq_false h1
  by_cases h2 : 500 < m
  · have d3 : decide ((m : Int) > 500) = true := decide_eq_true (by omega)
    have d4 : decide (500 < m) = true := decide_eq_true h2
    go_enter Tryd.func3, Tryd.ntmps3
    go_wp2_with fail
    refine (AW.out _ (Below.refl _ _)).mono ?_
    rintro e w' ⟨rfl, hb⟩
    go_wp2_with fail
    go_ret
    exact ⟨rfl, hb⟩
  have d3 : decide ((m : Int) > 500) = false := decide_eq_false (by omega)
  have d4 : decide (500 < m) = false := decide_eq_false h2
  have hq0 := quoS_size s
  have hq1 := quoB_len s.data.toList
  have hq2 : s.data.toList.length = s.size := by simp
  have CQ := Lib.hid (fun w => quote_any s w (by omega))
  have CR := Lib.hid (fun w => rquote_any s w (by omega))
  have CU := Lib.hid (fun w => unquote_lit (quoS s) _ (some s) w (by omega) (quoS_data s) (unqO_quo s))
  obtain ⟨o, ho⟩ : ∃ o, unqO t.data.toList = o := ⟨_, rfl⟩
  have CT := Lib.hid (fun w => unquote_lit t _ o w (by omega) rfl ho)
  have CD := Lib.hid (fun w => runquote_lit t _ o w (by omega) rfl ho)
  obtain ⟨q, hq⟩ : ∃ q, quoS s = q := ⟨_, rfl⟩
  unfold UnqP at CU CT CD
  obtain ⟨T, hT⟩ : ∃ T : ByteArray, o.getD { data := #[] } = T := ⟨_, rfl⟩
  obtain ⟨b, hb⟩ : ∃ b, o.isSome = b := ⟨_, rfl⟩
  rw [hT, hb] at CT CD
  rw [hq] at CQ CR CU
  have e1 : (b == b) = true := beq_self_eq_true b
  clear hq0 hq1 hq2 hT hb ho hq h1 h2
  go_enter Tryd.func3, Tryd.ntmps3
  go_wp2_with fail
  refine (CQ.out _).mono ?_
  rintro e w1 ⟨rfl, hb1⟩
  go_wp2_with fail
  refine (CU.out _).mono ?_
  rintro e w2 ⟨rfl, hb2⟩
  have B2 := Lib.hid (hb1.trans (hb2.mono hb1.size))
  clear hb1 hb2
  go_wp2_with fail
  refine (CT.out _).mono ?_
  rintro e w3 ⟨rfl, hb3⟩
  have B3 := Lib.hid (B2.out.trans (hb3.mono B2.out.size))
  clear hb3
  go_wp2_with fail
  refine (CD.out _).mono ?_
  rintro e w4 ⟨rfl, hb4⟩
  have B4 := Lib.hid (B3.out.trans (hb4.mono B3.out.size))
  clear hb4
  go_wp2_with fail
  refine (CR.out _).mono ?_
  rintro e w5 ⟨rfl, hb5⟩
  have B5 := Lib.hid (B4.out.trans (hb5.mono B4.out.size))
  clear hb5
  go_wp2_with fail
  refine (AW.out _ B5.out).mono ?_
  rintro e w6 ⟨rfl, hb6⟩
  go_wp2_with fail
  go_ret
  exact ⟨rfl, hb6⟩
theorem scriptQuotes_walk {H : Type} {enc : TypeId × Value → H} {laid : List (String × DataW Unit)} (W : World) (base : Nat) (v0 v1 : Value) (d0 d1 : DataW H) (p0 p1 : List MemPlace)
    (h0 : DataW.Trod enc Tryd.prog W 0 (fun _ => true) true 9 v0 d0 p0) (h1 : DataW.Trod enc Tryd.prog W 0 (fun _ => true) true 9 v1 d1 p1)
    (o0 : Value.okWide Tryd.prog W .any base 9 v0) (o1 : Value.okWide Tryd.prog W .any base 9 v1) (hL : laidMetH Tryd.prog laid W) (hsh : W.ShapedOpen Tryd.prog) :
    Calls Tryd.prog 3 #[v0, v1] W fun e w' => e = .returned (.bool true) ∧ RowKit.Below W.heap.size W w' := by
  obtain ⟨s, rfl, _, _, hs⟩ := Go.ChangeMaps.open_string Tryd.underlying9 o0 h0
  obtain ⟨t, rfl, _, _, ht⟩ := Go.ChangeMaps.open_string Tryd.underlying9 o1 h1
  unfold maxLen at hs ht
  exact scriptQuotes_any s t W (by omega) (by omega) (maxL_of hsh)
end Go.Proofs.YtmddnklafplikaaDoor
