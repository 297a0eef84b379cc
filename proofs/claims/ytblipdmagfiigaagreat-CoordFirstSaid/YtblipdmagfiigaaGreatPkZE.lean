/- texts joined -/
import Derived.WalkKit
import Derived.ProofKit
import Derived.OpenShut
import Derived.Lib.SmallJoins
import Derived.Lib.Hide
import Derived.Deep.Slices
import Derived.OwnWalk
import Derived.Laws.AppendOwnNone
import Derived.Test.YtblipdmagfiigaaGreatChecked
import Derived.WalkLawsBesides
import Derived.Outline
import Derived.Sort.Walk0
import Derived.Laws.RangeAny
import Derived.Lib.DecodeN
import Derived.Deep.QuietTactic
import Derived.BigQuiet
import Derived.SliceStrings
import Derived.Deep.RegionWith
import Derived.Deep.DeepCutAuto
import Derived.Deep.RegionHeld3
import Derived.Lib.OthersKept
import Derived.Maps.OwnSet
import Derived.WalkArith
import Derived.BigRegion
import Derived.Deep.AppendLies
import Derived.Deep.RegionLaw
import Derived.Laws.OwnMore
import Derived.Lib.SliceRun
import Derived.Sort.Grow
import Derived.Laws.AppendOwn
import Derived.Carry
import Derived.Maps.AppendAt
import Derived.WalkSpells
import Derived.StillTailTactics
import Derived.Laws.BitsAllLaws
import Derived.Lib.AppendStr
import Derived.Lib.Strings
import Derived.Lib.ConvBytes
import Derived.Laws.DeepBits32
import Derived.Laws.BytesArg
import Derived.Lib.SlBytesRow
import Derived.Test.YtblipdmagfiigaaGreatPkZD
namespace Go.Proofs.YtblipdmagfiigaaGreat
open Go.RowKit
set_option linter.unusedVariables false
set_option maxRecDepth 20000
/-- the merge's one shard -/
def y24 (wa : Option Addr) (wc : Nat) : SM := ⟨0, false, 0, false, k0, wa, 0, wc, []⟩
theorem tell24_f (wa : Option Addr) (wc : Nat) : tellF 2 2 [] ([y24 wa wc].map spl) [] = ([], [y24 none 0], []) := by rfl
theorem done24 (wa : Option Addr) (wc : Nat) : doneB 2 [] [y24 wa wc] = false := by rfl
theorem spl24 {L : List SM} (h : L.map spl = [y24 none 0]) : ∃ wa wc, L = [y24 wa wc] := by
  match L, h with
  | [⟨a, b, c, d, e, wa, wn, wc, wt⟩], h =>
    simp only [List.map_cons, List.map_nil, List.cons.injEq, and_true, spl, y24, SM.mk.injEq] at h
    obtain ⟨rfl, rfl, rfl, rfl, rfl, -, rfl, -, rfl⟩ := h
    exact ⟨wa, wc, rfl⟩
def Tell24 (w : World) (bm : Nat) (Sm : Nat → Prop) (e : Ending) (w' : World) : Prop := ∃ oa oc wa wc S', e = .returned (.slice oa 0 oc) ∧ MAt w' bm 2 [] [y24 wa wc] S' ∧ w'.ownsRow w.heap.size 71 2 (.slice oa 0 oc) 0 [] ∧ (∀ k, S' k → Sm k ∨ w.heap.size ≤ k) ∧ Turn Sm w w'
theorem tell24 (w : World) (bm : Nat) (wa : Option Addr) (wc : Nat) (Sm : Nat → Prop) (h : MAt w bm 2 [] [y24 wa wc] Sm) : Calls Tryz.prog 59 #[.pointer (some ⟨bm, 0, none⟩)] w (Tell24 w bm Sm) := by
  have hT := mtell_any 2 bm w h (show 1 ≤ 1000 by decide) (by decide) (by decide) (by decide)
  rw [tell24_f] at hT
  refine hT.mono ?_
  rintro e w' ⟨oa, oc, L, S', rfl, hin, hL⟩
  obtain ⟨wa', wc', rfl⟩ := spl24 hL
  exact ⟨oa, oc, wa', wc', S', rfl, hin.m, hin.o, hin.s, hin.t⟩
/-- the query's cells -/
def quC (ia : Option Addr) (ic bm sb : Nat) : Array Value := #[.int .i64 1, .string coA, .int .i64 1, .int .i64 2, .slice ia 0 ic, .bool false, .bool false, .pointer (some ⟨bm, 0, none⟩), .slice (some ⟨sb, 0, none⟩) 1 1]
def qmap (qb : Nat) : Int → Option Value := fun k => if k = 1 then some (.pointer (some ⟨qb, 0, none⟩)) else none
/-- what else there is stays, and keeps its colour -/
def Ext (w : World) (col : Nat → Nat) (w' : World) (col' : Nat → Nat) : Prop := Turn (fun k => col k ≤ 7) w w' ∧ ∀ k, k < w.heap.size → col' k = col k
theorem Ext.refl (w : World) (col : Nat → Nat) : Ext w col w col := ⟨Turn.refl _ _, fun _ _ => rfl⟩
theorem Ext.turn {w w' w'' : World} {col col' : Nat → Nat} {F : Nat → Prop} (h : Ext w col w' col') (t : Turn F w' w'') (hF : ∀ k, F k → col' k ≤ 7) : Ext w col w'' col' :=
  ⟨h.1.trans' t fun k hk => by
    rcases Nat.lt_or_ge k w.heap.size with e | e
    · exact Or.inl (by rw [← h.2 k e]; exact hF k hk)
    · exact Or.inr e, h.2⟩
theorem Ext.below {w w' w'' : World} {col col' : Nat → Nat} (h : Ext w col w' col') (hb : Below w'.heap.size w' w'') : Ext w col w'' col' := h.turn (F := fun _ => False) (Turn.of_below hb) fun k e => e.elim
theorem Ext.paint {w w' v v' : World} {col col' : Nat → Nat} (c : Nat) (h : Ext w col w' col') (hv : w.heap.size ≤ v.heap.size) : Ext w col w' (newCol v v' c col') := ⟨h.1, fun k hk => by rw [newCol_old (Nat.lt_of_lt_of_le hk hv)]; exact h.2 k hk⟩
theorem Ext.trans {w w' w'' : World} {col col' col'' : Nat → Nat} (h : Ext w col w' col') (k : Ext w' col' w'' col'') : Ext w col w'' col'' :=
  ⟨(h.turn k.1 fun _ e => e).1, fun i hi => (k.2 i (Nat.lt_of_lt_of_le hi h.1.size)).trans (h.2 i hi)⟩
/-- a query under way -/
structure CoQ (w : World) (col : Nat → Nat) (qb sb bm : Nat) (ia : Option Addr) (ic : Nat) (tu tr sk : Int) (he : Bool) : Prop where
  q : w.heap[qb]? = some (.cells (quC ia ic bm sb) 96 (0, 0))
  s : w.heap[sb]? = some (.cells #[.int .i64 tu, .int .i64 tr, .int .i64 sk, .bool he] 143 (0, 0))
  m : ∃ wa wc Sm, MAt w bm 2 [] [y24 wa wc] Sm ∧ ∀ k, Sm k → col k = 7
  c : col qb = 5 ∧ col sb = 6
theorem CoQ.lts {w : World} {col : Nat → Nat} {qb sb bm : Nat} {ia : Option Addr} {ic : Nat} {tu tr sk : Int} {he : Bool} (h : CoQ w col qb sb bm ia ic tu tr sk he) : qb < w.heap.size ∧ sb < w.heap.size := ⟨(Array.getElem?_eq_some_iff.1 h.q).1, (Array.getElem?_eq_some_iff.1 h.s).1⟩
theorem CoQ.turn {w w' : World} {col : Nat → Nat} {qb sb bm : Nat} {ia : Option Addr} {ic : Nat} {tu tr sk : Int} {he : Bool} {F : Nat → Prop} (h : CoQ w col qb sb bm ia ic tu tr sk he) (t : Turn F w w') (hF : ∀ k, F k → col k < 5 ∨ 7 < col k) : CoQ w' col qb sb bm ia ic tu tr sk he := by
  refine ⟨(t.block qb h.lts.1 fun e => by have := hF _ e; have := h.c.1; omega).trans h.q, (t.block sb h.lts.2 fun e => by have := hF _ e; have := h.c.2; omega).trans h.s, ?_, h.c⟩
  obtain ⟨wa, wc, Sm, hm, hc⟩ := h.m
  exact ⟨wa, wc, Sm, hm.turn t (fun k hk e => by have := hF _ e; have := hc k hk; omega), hc⟩
theorem CoQ.below {w w' : World} {col : Nat → Nat} {qb sb bm : Nat} {ia : Option Addr} {ic : Nat} {tu tr sk : Int} {he : Bool} (h : CoQ w col qb sb bm ia ic tu tr sk he) (hb : Below w.heap.size w w') : CoQ w' col qb sb bm ia ic tu tr sk he :=
  h.turn (F := fun _ => False) (Turn.of_below hb) fun k e => e.elim
theorem CoQ.paint {w v : World} {w' : World} {c : Nat} {col : Nat → Nat} {qb sb bm : Nat} {ia : Option Addr} {ic : Nat} {tu tr sk : Int} {he : Bool} (h : CoQ w col qb sb bm ia ic tu tr sk he) (hq : qb < v.heap.size ∧ sb < v.heap.size) (hm : ∀ k, col k = 7 → k < v.heap.size) : CoQ w (newCol v w' c col) qb sb bm ia ic tu tr sk he := by
  obtain ⟨wa, wc, Sm, h1, hc⟩ := h.m
  exact ⟨h.q, h.s, ⟨wa, wc, Sm, h1, fun k hk => by rw [newCol_old (hm k (hc k hk))]; exact hc k hk⟩, ⟨(newCol_old hq.1).trans h.c.1, (newCol_old hq.2).trans h.c.2⟩⟩
variable {B0 : Nat} {col : Nat → Nat} {x ca cc cw c2 bl bs bo ba bt bq n : Nat} {ls : Lt} {ss : Sl} {M : List TM}
theorem CoS.paintNew {w w' : World} {f f' : Int → Option Value} {ls' : Lt} {ss' : Sl} {M' : List TM} {n' : Nat} (c : Nat) (h0 : CoS B0 w col x ca cc cw c2 bl bs bo ba bt bq n ls ss M f) (h : CoS B0 w' col x ca cc cw c2 bl bs bo ba bt bq n' ls' ss' M' f') (hs : w.heap.size ≤ w'.heap.size) : CoS B0 w' (newCol w w' c col) x ca cc cw c2 bl bs bo ba bt bq n' ls' ss' M' f' := by
  refine h.paint (w := w') c hs h0.hB h0.lts ?_
  obtain ⟨St, q, hc⟩ := h.T
  refine ⟨St, q, fun k hk => ?_⟩
  rw [newCol_old]
  · exact hc k hk
  · rcases Nat.lt_or_ge k w.heap.size with e | e
    · exact e
    · have := h0.nw k e; have := hc k hk; omega
theorem nil24 {w : World} {B : Nat} {e : TypeId} {a : Option Addr} {c : Nat} (h : w.ownsRow B e 2 (.slice a 0 c) 0 []) : a = none → 0 = 0 ∧ c = 0 := by
  rintro rfl
  rcases h.2 with ⟨h0, -⟩ | ⟨g, cap, cur, hv, -⟩
  · injection h0 with _ _ h0; exact ⟨rfl, h0⟩
  · injection hv with hv; cases hv
def Adv24 (B0 : Nat) (col : Nat → Nat) (x ca cc cw c2 bl bs bo ba bt bq n : Nat) (ls : Lt) (ss : Sl) (M : List TM) (qb sb bm : Nat) (tu tr sk : Int) (he : Bool) (w : World) (e : Ending) (w' : World) : Prop :=
  ∃ col' ia ic, e = .returned (.slice none 0 0) ∧ CoS B0 w' col' x ca cc cw c2 bl bs bo ba bt bq n ls ss M (qmap qb) ∧ CoQ w' col' qb sb bm ia ic tu tr sk he ∧ Ext w col w' col'
set_option maxRecDepth 100000 in
set_option maxHeartbeats 1600000 in
theorem advance24 (qb sb bm : Nat) (tu tr sk : Int) (he : Bool) (w : World) (h : CoS B0 w col x ca cc cw c2 bl bs bo ba bt bq n ls ss M (qmap qb)) (hq : CoQ w col qb sb bm none 0 tu tr sk he) : Calls Tryz.prog 34 #[.pointer (some ⟨x, 0, none⟩), .int .i64 1] w (Adv24 B0 col x ca cc cw c2 bl bs bo ba bt bq n ls ss M qb sb bm tu tr sk he w) := by
  obtain ⟨i0, hi, hz0, hz1, hz2⟩ := info_parts item_info
  have C := Lib.hid h
  have HQ := Lib.hid hq
  have x17 : w.cell? ⟨x, 17, none⟩ = some (.map (some bq)) := co_cell h.box rfl
  have wf : wfI 1 := by unfold wfI; rfl
  obtain ⟨wa, wc, Sm, hm, hc⟩ := hq.m
  have CT := Lib.hid (tell24 w.drew bm wa wc Sm (hm.below ((Below.refl _ _).drew)))
  have HC := Lib.hid hc
  clear h hq hm hc
  go_enter Tryz.func34, Tryz.ntmps34
  go_wp2_with (first | (at_lookup; refine wpList_get_mv mapTq rfl (.tmp 9) (.tmp 10) rfl rfl C.out.Q 1 rfl wf (.pointer (some ⟨qb, 0, none⟩)) rfl ?_) | fail)
  have y4 : w.cell? ⟨qb, 4, none⟩ = some (.slice none 0 0) := co_cell HQ.out.q rfl
  have y7 : w.cell? ⟨qb, 7, none⟩ = some (.pointer (some ⟨bm, 0, none⟩)) := co_cell HQ.out.q rfl
  have G := Lib.hid (show ∀ w2, Turn Sm w.drew w2 → w2.heap[qb]? = some (.cells (quC none 0 bm sb) 96 (0, 0)) from fun w2 t => (t.block qb HQ.out.lts.1 fun e => by have := HC.out _ e; have := HQ.out.c.1; omega).trans HQ.out.q)
  go_region_law
    (first
      | (go_simp; go_at_call 59; (with_reducible refine CT.out.mono ?_); rintro e w2 ⟨oa, oc, wa2, wc2, S2, rfl, hm2, ho2, hs2, ht2⟩; have g4 : w2.cell? ⟨qb, 4, none⟩ = some (.slice none 0 0) := co_cell (G.out w2 ht2) rfl; have z4 := co_fz (G.out w2 ht2) 4)
      | (refine step_append_opt (by rfl) _ _ _ (by rfl) _ 71 i0 _ 2 24 Tryz.underlying24 hi hz0 hz1 hz2 rfl (by omega) (.slice none 0 0) 0 [] (by rfl) (World.ownsRow_nil _ _ _ _) oa 0 oc [] (by rfl) (nil24 ho2) rfl (fun ad _ j u hu => by cases hu) (fun u hu => by cases hu) (by unfold maxLen; omega) (by omega) (Nat.le_refl _) ?_; intro a3 c3 w3 ho3 hb3; have g43 : w3.cell? ⟨qb, 4, none⟩ = some (.slice none 0 0) := (hb3.cell (p := ⟨qb, 4, none⟩) (lt_of_cell g4)).trans g4; have z43 : w3.frozen? ⟨qb, 4, none⟩ = false := (World.frozen?_of_block (w := w2) (hb3.block qb (lt_of_cell g4))).trans z4))
  all_goals
    have hsz : w.heap.size ≤ w2.heap.size := ht2.size
    have C2 : CoS B0 w2 col x ca cc cw c2 bl bs bo ba bt bq n ls ss M (qmap qb) := (C.out.below ((Below.refl _ _).drew)).own ht2 (fun k e => by rw [HC.out k e]; decide)
    have C2' := C.out.paintNew 7 C2 hsz
    have Q2 : CoQ w2 (newCol w w2 7 col) qb sb bm none 0 tu tr sk he := ⟨G.out w2 ht2, (ht2.block sb HQ.out.lts.2 fun e => by have := HC.out _ e; have := HQ.out.c.2; omega).trans HQ.out.s, ⟨wa2, wc2, S2, hm2, fun k hk => by
      by_cases e : w.heap.size ≤ k
      · exact newCol_new e (hm2.lt k hk)
      · rcases hs2 k hk with h1 | h1
        · rw [newCol_old (by omega)]; exact HC.out k h1
        · exact absurd h1 e⟩, ⟨(newCol_old HQ.out.lts.1).trans HQ.out.c.1, (newCol_old HQ.out.lts.2).trans HQ.out.c.2⟩⟩
    have hbE : Ext w col w2 (newCol w w2 7 col) := Ext.paint 7 (((Ext.refl w col).below ((Below.refl _ _).drew)).turn ht2 (fun k hk => by rw [HC.out k hk]; decide)) (Nat.le_refl _)
    have C3 := C2'.below hb3
    have Q3 := Q2.below hb3
    have hbF := hbE.below hb3
    have tS : Turn (fun k => k = qb) w3 (w3.setCell ⟨qb, 4, none⟩ (.slice a3 0 c3)) := Turn.setCell rfl
    have C4 := Lib.hid (C3.own tS (fun k e => by have := Q3.c.1; rw [e]; omega))
    have Q4 := Lib.hid (show CoQ (w3.setCell ⟨qb, 4, none⟩ (.slice a3 0 c3)) (newCol w w2 7 col) qb sb bm a3 c3 tu tr sk he from ⟨by rw [Go.heap_setCell_same w3 qb 4 _ _ _ Q3.q]; rfl, (tS.block sb Q3.lts.2 fun e => by have := Q3.c.1; have := Q3.c.2; rw [e] at this; omega).trans Q3.s, by
      obtain ⟨wa3, wc3, Sm3, hm3, hc3⟩ := Q3.m
      exact ⟨wa3, wc3, Sm3, hm3.turn tS (fun k hk e => by have h1 := hc3 k hk; rw [e] at h1; have := Q3.c.1; omega), hc3⟩, Q3.c⟩)
    have B4 := Lib.hid (hbF.turn tS (fun k e => by have := Q3.c.1; rw [e]; omega))
    have MD := Lib.hid Q4.out.m
    clear hsz C2 C2' Q2 hbE C3 Q3 hbF tS hm2 ho2 hs2 ht2 ho3 hb3 g4 z4 g43 z43 y4 y7
    go_upto_region 3 with fail
    generalize w3.setCell ⟨qb, 4, none⟩ (.slice a3 0 c3) = w4 at *
    have y7 : w4.cell? ⟨qb, 7, none⟩ = some (.pointer (some ⟨bm, 0, none⟩)) := co_cell Q4.out.q rfl
    obtain ⟨wa4, wc4, Sm4, hm4, hc4⟩ := MD.out
    have CD := Lib.hid (mdone_any false bm w4 hm4 (show 1 ≤ 1000 by decide) (done24 wa4 wc4))
    clear hm4 hc4
    go_wp2_with fail
    refine CD.out.mono ?_
    rintro e w5 ⟨rfl, hb5⟩
    have FIN := Lib.hid (show Adv24 B0 col x ca cc cw c2 bl bs bo ba bt bq n ls ss M qb sb bm tu tr sk he w (.returned (.slice none 0 0)) w5 from ⟨_, a3, c3, rfl, C4.out.below hb5, Q4.out.below hb5, B4.out.below hb5⟩)
    clear hb5
    go_wp2_with fail
    go_ret
    exact FIN.out
end Go.Proofs.YtblipdmagfiigaaGreat
namespace Go.Proofs.YtblipdmagfiigaaGreat
open Go.RowKit
set_option linter.unusedVariables false
set_option maxRecDepth 20000
variable {B0 : Nat} {col : Nat → Nat} {x ca cc cw c2 bl bs bo ba bt bq n : Nat} {ls : Lt} {ss : Sl} {M : List TM}
def ss0 : Sl := newSl 1
def ss1 : Sl := subS true ss0 0
theorem mayP24 : decide (mayP coA 1 2) = true := decide_eq_true (by unfold mayP; decide +kernel)
theorem ff24 : FirstFree ss0 0 := ⟨by decide, fun i h => by omega, fun _ => rfl⟩
theorem sub24 (w : World) (h : SlAt w bs bo ba ss0) : Calls Tryz.prog 31 #[.pointer (some ⟨bs, 0, none⟩), .agg #[.string coA, .int .i64 1, .int .i64 2]] w fun e w' => e = .returned (.tuple #[.int .i64 3, .int .i64 1, .int .i64 0]) ∧ SlAt w' bs bo ba ss1 ∧ Turn (slF bs bo ba) w w' :=
  submit_may bs bo ba 0 coA 1 2 w h (newSl_good (by omega) (by omega)) ff24 (by decide) (by decide) mayP24
theorem shard_info : (Tryz.prog.info? 143).map (fun i => (i.zero, i.size, i.bytes)) = some (some (.agg #[.int .i64 0, .int .i64 0, .int .i64 0, .bool false]), 4, 32) := by kernel_rfl
theorem made24 : (madeCells (Value.agg #[.int .i64 0, .int .i64 0, .int .i64 0, .bool false]).cells (1 * 4)).toList = [.int .i64 0, .int .i64 0, .int .i64 0, .bool false] := by kernel_rfl
theorem own_block24 {w : World} {B g : Nat} {e : TypeId} {a b c d : Value} (h : w.ownsRow B e 4 (.slice (some ⟨g, 0, none⟩) 1 1) 1 [a, b, c, d]) : w.heap[g]? = some (.cells #[a, b, c, d] e (0, 0)) := by
  rcases h.2 with ⟨h0, -⟩ | ⟨g', cap, cur, hv, -, hh, -, -, hs, hx⟩
  · injection h0 with h0; cases h0
  · injection hv with h1 h2 h3
    injection h1 with h1
    injection h1 with h1
    subst h1; subst h3
    rw [List.take_of_length_le (by simp; omega)] at hx
    rw [hh, show cur = #[a, b, c, d] from by cases cur; simpa using hx]
theorem sub_carry {w1 a b : World} {q : Nat} (h : Below w1.heap.size w1 a ∧ a.cell? ⟨q, 0, none⟩ = some (.string coA) ∧ a.cell? ⟨q, 1, none⟩ = some (.int .i64 1) ∧ a.cell? ⟨q, 2, none⟩ = some (.int .i64 2)) (hb : Below a.heap.size a b) : Below w1.heap.size w1 b ∧ b.cell? ⟨q, 0, none⟩ = some (.string coA) ∧ b.cell? ⟨q, 1, none⟩ = some (.int .i64 1) ∧ b.cell? ⟨q, 2, none⟩ = some (.int .i64 2) :=
  ⟨h.1.trans (hb.mono h.1.size), (hb.cell (p := ⟨q, 0, none⟩) (lt_of_cell h.2.1)).trans h.2.1, (hb.cell (p := ⟨q, 1, none⟩) (lt_of_cell h.2.2.1)).trans h.2.2.1, (hb.cell (p := ⟨q, 2, none⟩) (lt_of_cell h.2.2.2)).trans h.2.2.2⟩
def Sub24 (B0 : Nat) (col : Nat → Nat) (x ca cc cw c2 bl bs bo ba bt bq : Nat) (ls : Lt) (M : List TM) (w : World) (e : Ending) (w' : World) : Prop :=
  ∃ col' qb sb bm ia ic, e = .returned (.tuple #[.int .i64 3, .int .i64 1, .slice none 0 0]) ∧ CoS B0 w' col' x ca cc cw c2 bl bs bo ba bt bq 1 ls ss1 M (qmap qb) ∧ CoQ w' col' qb sb bm ia ic 0 0 0 false ∧ Ext w col w' col'
set_option maxRecDepth 100000 in
set_option maxHeartbeats 3200000 in
theorem submit24 (w : World) (h : CoS B0 w col x ca cc cw c2 bl bs bo ba bt bq 0 ls ss0 M (fun _ => none)) : Calls Tryz.prog 8 #[.pointer (some ⟨x, 0, none⟩), .agg #[.string coA, .int .i64 1, .int .i64 2]] w (Sub24 B0 col x ca cc cw c2 bl bs bo ba bt bq ls M w) := by
  have hb1 := below_one w (.cells #[.string coA, .int .i64 1, .int .i64 2] 23)
  obtain ⟨q, hq⟩ : ∃ q, w.heap.size = q := ⟨_, rfl⟩
  have KQ := Lib.hid (show (w.alloc (.cells #[.string coA, .int .i64 1, .int .i64 2] 23)).heap[q]? = some (.cells #[.string coA, .int .i64 1, .int .i64 2] 23 (0, 0)) from by rw [← hq]; exact heap_alloc_new w _)
  have C1 := Lib.hid (h.below hb1)
  have E1 := Lib.hid ((Ext.refl w col).below hb1)
  have HCQ := Lib.hid (show col q = 9 from h.nw q (by omega))
  clear h hb1
  go_enter Tryz.func8, Tryz.ntmps8
  go_upto_region 1 with fail
  generalize w.alloc (.cells #[.string coA, .int .i64 1, .int .i64 2] 23) = w1 at *
  go_upto_region 3 with fail
  have CD := Lib.hid (C1.out.below ((Below.refl _ _).drew))
  have CSub := Lib.hid (sub24 w1.drew CD.out.S)
  have hql : q < w1.heap.size := (Array.getElem?_eq_some_iff.1 KQ.out).1
  have HS := Lib.hid (show ∀ w', Turn (slF bs bo ba) w1.drew w' → w'.heap[q]? = some (.cells #[.string coA, .int .i64 1, .int .i64 2] 23 (0, 0)) ∧ w'.cell? ⟨x, 15, none⟩ = some (.pointer (some ⟨bs, 0, none⟩)) ∧ w'.cell? ⟨q, 0, none⟩ = some (.string coA) ∧ w'.cell? ⟨q, 1, none⟩ = some (.int .i64 1) ∧ w'.cell? ⟨q, 2, none⟩ = some (.int .i64 2) from fun w' t => by
    have k := (t.block q hql fun e => by have := C1.out.hs q e; have := HCQ.out; omega).trans (show w1.drew.heap[q]? = some (.cells #[.string coA, .int .i64 1, .int .i64 2] 23 (0, 0)) from KQ.out)
    exact ⟨k, (t.cell C1.out.lts.1 fun e => by have := C1.out.hs x e; have := C1.out.cx.1; omega).trans (co_cell C1.out.box rfl), co_cell k rfl, co_cell k rfl, co_cell k rfl⟩)
  have S0 := Lib.hid (HS.out w1.drew (Turn.refl _ _))
  go_region_held3 (fun w' => w'.heap[q]? = some (.cells #[.string coA, .int .i64 1, .int .i64 2] 23 (0, 0)) ∧ w'.cell? ⟨x, 15, none⟩ = some (.pointer (some ⟨bs, 0, none⟩)) ∧ w'.cell? ⟨q, 0, none⟩ = some (.string coA) ∧ w'.cell? ⟨q, 1, none⟩ = some (.int .i64 1) ∧ w'.cell? ⟨q, 2, none⟩ = some (.int .i64 2))
    (first | assumption | exact S0.out | exact HS.out _ (by assumption))
    (first
      | (go_at_call 31; refine CSub.out.mono ?_; rintro e w2 ⟨rfl, hS, hT⟩))
  have C2 := Lib.hid (CD.out.slots hS hT)
  have E2 := Lib.hid ((E1.out.below ((Below.refl _ _).drew)).turn hT (fun k e => by rw [C1.out.hs k e]; decide))
  have K2 := Lib.hid (HS.out w2 hT).1
  have LM := Lib.hid (fun (w' : World) (hb : Below w2.heap.size w2 w') => leasts24 w' (C2.out.below hb))
  have S2 := Lib.hid (show Below w2.heap.size w2 w2.drew ∧ w2.drew.cell? ⟨q, 0, none⟩ = some (.string coA) ∧ w2.drew.cell? ⟨q, 1, none⟩ = some (.int .i64 1) ∧ w2.drew.cell? ⟨q, 2, none⟩ = some (.int .i64 2) from ⟨(Below.refl _ _).drew, co_cell K2.out rfl, co_cell K2.out rfl, co_cell K2.out rfl⟩)
  clear hS hT HS S0 CSub CD
  go_upto_region 6 with fail
  go_region_held3 (fun w' => Below w2.heap.size w2 w' ∧ w'.cell? ⟨q, 0, none⟩ = some (.string coA) ∧ w'.cell? ⟨q, 1, none⟩ = some (.int .i64 1) ∧ w'.cell? ⟨q, 2, none⟩ = some (.int .i64 2))
    (first | assumption | exact S2.out | exact sub_carry (by assumption) (by assumption))
    (first
      | (go_at_call 33; refine (LM.out _ (And.left (by assumption))).mono ?_; rintro e w3 ⟨a4, c4, rfl, hA, hb3⟩)
      | (go_at_call 32; refine (mnew_any a4 1 c4 [0] 2 _ hA (by omega) (by omega)).mono ?_; rintro e w4 ⟨bm, Sm, rfl, hM, hMge, hb4⟩))
  rename_i T4
  have hb24 : Below w2.heap.size w2 w4 := T4.1
  obtain ⟨-, q0, q1, q2⟩ := T4
  have hb23 : Below w2.heap.size w2 w3 := ((Below.refl w2.heap.size w2).drew).trans hb3
  have C3 := C2.out.below hb23
  have C4 := C2.out.below hb24
  have C4' := C3.paintNew 7 C4 hb4.size
  have E4' := Ext.paint (v := w3) (v' := w4) 7 (E2.out.below hb24) (Nat.le_trans E2.out.1.size hb23.size)
  have M4 : ∀ k, Sm k → newCol w3 w4 7 col k = 7 := fun k hk => newCol_new (hMge k hk) (hM.lt k hk)
  obtain ⟨cl4, hcl4⟩ : ∃ c, newCol w3 w4 7 col = c := ⟨_, rfl⟩
  rw [hcl4] at C4' E4' M4
  obtain ⟨i1, hi1, hy0, hy1, hy2⟩ := info_parts shard_info
  obtain ⟨w5, hrun, hown5, hgrow5⟩ := run_make_full (P := Tryz.prog) w4.drew w4.heap.size 94 143 i1 (.agg #[.int .i64 0, .int .i64 0, .int .i64 0, .bool false]) 4 Tryz.underlying94 hi1 hy0 hy1 .i64 .i64 1 (by rw [hy2]; omega) (by unfold maxLen; omega) (Nat.le_refl _)
  have hrun2 : (Instr.makeSlice 94 (.int .i64 1) (.int .i64 1)).run Tryz.prog w4.drew = .ok (.slice (some ⟨w4.heap.size, 0, none⟩) 1 1) w5 := hrun
  rw [made24] at hown5
  have hsb := own_block24 hown5
  have hb45 : Below w4.heap.size w4 w5 := (Below.refl w4.heap.size w4).drew.trans ((below_grown hgrow5 (by intro k hk; cases hk)))
  obtain ⟨sb, hsbe⟩ : ∃ b, w4.heap.size = b := ⟨_, rfl⟩
  rw [show w4.drew.heap.size = sb from hsbe] at hsb
  rw [hsbe] at hrun2
  have C5 := C4'.below hb45
  have C5' := C4'.paintNew 6 C5 hb45.size
  have hsl : sb < w5.heap.size := (Array.getElem?_eq_some_iff.1 hsb).1
  have hs6 : newCol w4 w5 6 cl4 sb = 6 := newCol_new (by omega) hsl
  have M5 : ∀ k, Sm k → newCol w4 w5 6 cl4 k = 7 := fun k hk => (newCol_old (hM.lt k hk)).trans (M4 k hk)
  have E5 := Ext.paint (v := w4) (v' := w5) 6 (E4'.below hb45) E4'.1.size
  obtain ⟨cl5, hcl5⟩ : ∃ c, newCol w4 w5 6 cl4 = c := ⟨_, rfl⟩
  rw [hcl5] at C5' hs6 M5 E5
  have hM5 := hM.below hb45
  have hb56 := below_one w5 (.cells (quC none 0 bm sb) 96)
  have C6 := C5'.below hb56
  have C6' := C5'.paintNew 5 C6 hb56.size
  obtain ⟨qb, hqb⟩ : ∃ b, w5.heap.size = b := ⟨_, rfl⟩
  have K6 : (w5.alloc (.cells (quC none 0 bm sb) 96)).heap[qb]? = some (.cells (quC none 0 bm sb) 96 (0, 0)) := by rw [← hqb]; exact heap_alloc_new w5 _
  have Q6 := Lib.hid (show CoQ (w5.alloc (.cells (quC none 0 bm sb) 96)) (newCol w5 (w5.alloc (.cells (quC none 0 bm sb) 96)) 5 cl5) qb sb bm none 0 0 0 0 false from
    ⟨K6, (hb56.block sb hsl).trans hsb, ⟨none, 0, Sm, hM5.below hb56, fun k hk => (newCol_old (hM5.lt k hk)).trans (M5 k hk)⟩, ⟨newCol_new (by omega) (Array.getElem?_eq_some_iff.1 K6).1, (newCol_old hsl).trans hs6⟩⟩)
  have E6 := Lib.hid (Ext.paint (v := w5) (v' := w5.alloc (.cells (quC none 0 bm sb) 96)) 5 (E5.below hb56) E5.1.size)
  have CC6 := Lib.hid C6'
  have x12 : w4.cell? ⟨x, 12, none⟩ = some (.slice (some ⟨ca, 0, none⟩) 1 cc) := co_cell C4.box rfl
  have x17 : w4.cell? ⟨x, 17, none⟩ = some (.map (some bq)) := co_cell C4.box rfl
  have x17' : w5.cell? ⟨x, 17, none⟩ = some (.map (some bq)) := co_cell C5.box rfl
  have x17'' : (w5.alloc (.cells #[.int .i64 1, .string coA, .int .i64 1, .int .i64 2, .slice none 0 0, .bool false, .bool false, .pointer (some ⟨bm, 0, none⟩), .slice (some ⟨sb, 0, none⟩) 1 1] 96)).cell? ⟨x, 17, none⟩ = some (.map (some bq)) := co_cell C6.box rfl
  have p0 : w5.cell? ⟨q, 0, none⟩ = some (.string coA) := (hb45.cell (p := ⟨q, 0, none⟩) (lt_of_cell q0)).trans q0
  have p1 : w5.cell? ⟨q, 1, none⟩ = some (.int .i64 1) := (hb45.cell (p := ⟨q, 1, none⟩) (lt_of_cell q1)).trans q1
  have p2 : w5.cell? ⟨q, 2, none⟩ = some (.int .i64 2) := (hb45.cell (p := ⟨q, 2, none⟩) (lt_of_cell q2)).trans q2
  have wf : wfI 1 := by unfold wfI; rfl
  have MQ := Lib.hid C6.Q
  clear C3 C4 C4' E4' M4 hrun hown5 hgrow5 hsb C5 C5' hsl hs6 M5 E5 hM5 hb56 C6 C6' K6 hb23 hb24 hb45 hM hMge hA hb3 hb4 hcl4 hcl5 hql
  clear LM S2 C2 E2 C1 E1 KQ K2 HCQ
  go_upto_region 7 with fail
  obtain ⟨w7, hput, m7, t7⟩ := MapV.put_run mapTq MQ.out (by unfold maxLen; omega) 1 (.pointer (some ⟨qb, 0, none⟩)) wf
  have hput2 : (Instr.mapUpdate 85 (.map (some bq)) (.int .i64 1) (.pointer (some ⟨qb, 0, none⟩))).run Tryz.prog (w5.alloc (.cells #[.int .i64 1, .string coA, .int .i64 1, .int .i64 2, .slice none 0 0, .bool false, .bool false, .pointer (some ⟨bm, 0, none⟩), .slice (some ⟨sb, 0, none⟩) 1 1] 96)) = .ok () w7 := hput
  clear hput
  go_region_law (fail)
  all_goals
    have t7' : Turn (fun k => k = bq) (w5.alloc (.cells (quC none 0 bm sb) 96)) w7 := TurnV.of_mapTurned t7 rfl
    have m7' : MapV w7 bq 1 (qmap qb) := by
      have h : vset (fun _ => none) 1 (some (.pointer (some ⟨qb, 0, none⟩))) = qmap qb := by funext k; rfl
      rw [← h]; exact m7
    have C7 := Lib.hid (CC6.out.queries m7' t7')
    have Q7 := Q6.out.turn t7' (fun k e => by have := CC6.out.cq; rw [e]; omega)
    have E7 := Lib.hid (E6.out.turn t7' (fun k e => by have := CC6.out.cq; rw [e]; omega))
    have CA := Lib.hid (advance24 qb sb bm 0 0 0 false w7 C7.out Q7)
    clear m7 t7 t7' m7' Q7 MQ x12 x17 x17' x17'' p0 p1 p2 q0 q1 q2 hrun2 hput2 wf
    go_wp2_with fail
    refine CA.out.mono ?_
    rintro e w8 ⟨col', ia, ic, rfl, h1, h2, h3⟩
    have FIN := Lib.hid (show Sub24 B0 col x ca cc cw c2 bl bs bo ba bt bq ls M w (.returned (.tuple #[.int .i64 3, .int .i64 1, .slice none 0 0])) w8 from ⟨col', qb, sb, bm, ia, ic, rfl, h1, h2, E7.out.trans h3⟩)
    clear h1 h2 h3
    go_wp2_with fail
    exact bodyPost_ret (v := .tuple #[.int .i64 3, .int .i64 1, .slice none 0 0]) (by simp [results, go_sem]) rfl FIN.out
end Go.Proofs.YtblipdmagfiigaaGreat
namespace Go.Proofs.YtblipdmagfiigaaGreat
open Go.RowKit
set_option linter.unusedVariables false
set_option maxRecDepth 20000
variable {B0 : Nat} {col : Nat → Nat} {x ca cc cw c2 bl bs bo ba bt bq n : Nat} {ss : Sl} {M : List TM} {f : Int → Option Value}
theorem ls1_good : GoodL ls1 := hello_good ls0_good 1 1 0
theorem ls1_live : decide (liveOk ls1 1 0) = true := by decide +kernel
theorem ls1_ep : epochS ls1 1 = 1 := by decide +kernel
theorem liv_carry {w1 a b : World} {B x bl : Nat} (h : Below w1.heap.size w1 a ∧ a.cell? ⟨B, 0, none⟩ = some (.pointer (some ⟨x, 0, none⟩)) ∧ a.cell? ⟨x, 13, none⟩ = some (.int .i64 0) ∧ a.cell? ⟨x, 14, none⟩ = some (.pointer (some ⟨bl, 0, none⟩))) (hb : Below a.heap.size a b) : Below w1.heap.size w1 b ∧ b.cell? ⟨B, 0, none⟩ = some (.pointer (some ⟨x, 0, none⟩)) ∧ b.cell? ⟨x, 13, none⟩ = some (.int .i64 0) ∧ b.cell? ⟨x, 14, none⟩ = some (.pointer (some ⟨bl, 0, none⟩)) :=
  ⟨h.1.trans (hb.mono h.1.size), (hb.cell (p := ⟨B, 0, none⟩) (lt_of_cell h.2.1)).trans h.2.1, (hb.cell (p := ⟨x, 13, none⟩) (lt_of_cell h.2.2.1)).trans h.2.2.1, (hb.cell (p := ⟨x, 14, none⟩) (lt_of_cell h.2.2.2)).trans h.2.2.2⟩
theorem liveC24 (B : Nat) (w : World) (h : CoS B0 w col x ca cc cw c2 bl bs bo ba bt bq n ls1 ss M f) (hB : w.cell? ⟨B, 0, none⟩ = some (.pointer (some ⟨x, 0, none⟩))) : Calls Tryz.prog 96 #[.int .i64 1, .pointer (some ⟨B, 0, none⟩)] w fun e w' => e = .returned (.bool true) ∧ Below w.heap.size w w' := by
  have CL := Lib.hid (fun w' (hb : Below w.heap.size w w') => live_any bl 1 0 w' (h.below hb).L ls1_good)
  rw [ls1_live] at CL
  have S0 := Lib.hid (show Below w.heap.size w w.drew ∧ w.drew.cell? ⟨B, 0, none⟩ = some (.pointer (some ⟨x, 0, none⟩)) ∧ w.drew.cell? ⟨x, 13, none⟩ = some (.int .i64 0) ∧ w.drew.cell? ⟨x, 14, none⟩ = some (.pointer (some ⟨bl, 0, none⟩)) from ⟨(Below.refl _ _).drew, hB, co_cell h.box rfl, co_cell h.box rfl⟩)
  clear h hB
  go_enter Tryz.func96, Tryz.ntmps96
  go_upto_region 1 with fail
  go_region_held3 (fun w' => Below w.heap.size w w' ∧ w'.cell? ⟨B, 0, none⟩ = some (.pointer (some ⟨x, 0, none⟩)) ∧ w'.cell? ⟨x, 13, none⟩ = some (.int .i64 0) ∧ w'.cell? ⟨x, 14, none⟩ = some (.pointer (some ⟨bl, 0, none⟩)))
    (first | assumption | exact S0.out | exact liv_carry (by assumption) (by assumption))
    (first
      | (go_at_call 97; refine (CL.out _ (And.left (by assumption))).mono ?_; rintro e w2 ⟨rfl, hb2⟩))
  rename_i T5
  have hb := T5.1
  clear T5
  go_wp2_with fail
  go_ret
  exact ⟨rfl, hb⟩
theorem idx24 (B : Nat) (w : World) (h : CoS B0 w col x ca cc cw c2 bl bs bo ba bt bq n ls1 ss M f) (hB : w.cell? ⟨B, 0, none⟩ = some (.pointer (some ⟨x, 0, none⟩))) : Calls Tryz.prog 95 #[.slice (some ⟨cw, 0, none⟩) 1 c2, .func (.func 96) #[] #[.pointer (some ⟨B, 0, none⟩)]] w fun e w' => e = .returned (.int .i64 0) ∧ Below w.heap.size w w' := by
  have CL := Lib.hid (liveC24 B w h hB)
  have k := h.wk
  clear h hB
  go_enter Tryz.func95, Tryz.ntmps95
  go_wp2_with fail
  go_loopw [8] (fun iv wr => iv = .int .i64 0 ∧ wr = w) (fun _ _ => 0)
  case atStart => exact ⟨rfl, rfl⟩
  case round =>
    obtain ⟨rfl, rfl⟩ := hrel
    go_wp2_with fail
    refine CL.out.mono ?_
    rintro e w2 ⟨rfl, hb2⟩
    go_wp2_with fail
    go_ret
    exact ⟨rfl, hb2⟩
theorem firstLive24 (w : World) (h : CoS B0 w col x ca cc cw c2 bl bs bo ba bt bq n ls1 ss M f) : Calls Tryz.prog 69 #[.pointer (some ⟨x, 0, none⟩), .int .i64 0] w fun e w' => e = .returned (.int .i64 0) ∧ Below w.heap.size w w' := by
  have hb1 := below_one w (.cells #[.pointer (some ⟨x, 0, none⟩)] 31)
  have C1 := h.below hb1
  obtain ⟨B, hB⟩ : ∃ B, w.heap.size = B := ⟨_, rfl⟩
  have kB : (w.alloc (.cells #[.pointer (some ⟨x, 0, none⟩)] 31)).cell? ⟨B, 0, none⟩ = some (.pointer (some ⟨x, 0, none⟩)) := by rw [← hB, cell_alloc rfl]; rfl
  have CI := Lib.hid (idx24 B _ C1 kB)
  have x12 : (w.alloc (.cells #[.pointer (some ⟨x, 0, none⟩)] 31)).cell? ⟨x, 12, none⟩ = some (.slice (some ⟨ca, 0, none⟩) 1 cc) := co_cell C1.box rfl
  have r0 := C1.row
  have BB := Lib.hid hb1
  clear h hb1 C1
  go_enter Tryz.func69, Tryz.ntmps69
  go_wp2_with fail
  refine CI.out.mono ?_
  rintro e w2 ⟨rfl, hb2⟩
  go_wp2_with fail
  go_ret
  exact ⟨rfl, BB.out.trans (hb2.mono BB.out.size)⟩
end Go.Proofs.YtblipdmagfiigaaGreat
namespace Go.Proofs.YtblipdmagfiigaaGreat
open Go.RowKit
set_option linter.unusedVariables false
set_option maxRecDepth 20000
variable {B0 : Nat} {col : Nat → Nat} {x ca cc cw c2 bl bs bo ba bt bq n : Nat} {ss : Sl} {M : List TM}
def askV : Value := .agg #[.int .i64 0, .int .i64 1, .int .i64 0, .int .i64 0, .int .i64 1, .string coA, .int .i64 1, .int .i64 2, .bool true, .int .i64 0, .string { data := #[] }]
def Ask24 (w : World) (e : Ending) (w' : World) : Prop := ∃ p, e = .returned (.slice (some ⟨p, 0, none⟩) 1 1) ∧ One24 w' 1 73 askV p ∧ w.heap.size ≤ p ∧ Below w.heap.size w w'
theorem ask_carry24 {w1 a b : World} {qb x bm p : Nat} (h : Below w1.heap.size w1 a ∧ a.cell? ⟨qb, 7, none⟩ = some (.pointer (some ⟨bm, 0, none⟩)) ∧ a.cell? ⟨qb, 1, none⟩ = some (.string coA) ∧ a.cell? ⟨qb, 2, none⟩ = some (.int .i64 1) ∧ a.cell? ⟨x, 5, none⟩ = some (.int .i64 2) ∧ a.cell? ⟨p, 0, none⟩ = some (.int .i64 0) ∧ a.cell? ⟨p, 1, none⟩ = some (.string { data := #[] })) (hb : Below a.heap.size a b) : Below w1.heap.size w1 b ∧ b.cell? ⟨qb, 7, none⟩ = some (.pointer (some ⟨bm, 0, none⟩)) ∧ b.cell? ⟨qb, 1, none⟩ = some (.string coA) ∧ b.cell? ⟨qb, 2, none⟩ = some (.int .i64 1) ∧ b.cell? ⟨x, 5, none⟩ = some (.int .i64 2) ∧ b.cell? ⟨p, 0, none⟩ = some (.int .i64 0) ∧ b.cell? ⟨p, 1, none⟩ = some (.string { data := #[] }) := by
  obtain ⟨h0, h1, h2, h3, h4, h5, h6⟩ := h
  exact ⟨h0.trans (hb.mono h0.size), (hb.cell (p := ⟨qb, 7, none⟩) (lt_of_cell h1)).trans h1, (hb.cell (p := ⟨qb, 1, none⟩) (lt_of_cell h2)).trans h2, (hb.cell (p := ⟨qb, 2, none⟩) (lt_of_cell h3)).trans h3, (hb.cell (p := ⟨x, 5, none⟩) (lt_of_cell h4)).trans h4, (hb.cell (p := ⟨p, 0, none⟩) (lt_of_cell h5)).trans h5, (hb.cell (p := ⟨p, 1, none⟩) (lt_of_cell h6)).trans h6⟩
set_option maxRecDepth 100000 in
set_option maxHeartbeats 1600000 in
theorem ask24 (qb sb bm : Nat) (ia : Option Addr) (ic : Nat) (tu tr sk : Int) (he : Bool) (w : World) (h : CoS B0 w col x ca cc cw c2 bl bs bo ba bt bq n ls1 ss M (qmap qb)) (hq : CoQ w col qb sb bm ia ic tu tr sk he) : Calls Tryz.prog 71 #[.pointer (some ⟨x, 0, none⟩), .int .i64 0, .int .i64 1, .int .i64 0, .int .i64 0] w (Ask24 w) := by
  have C := Lib.hid h
  have Q := Lib.hid hq
  obtain ⟨wa, wc, Sm, hm, -⟩ := hq.m
  have CE := Lib.hid (fun w' (hb : Below w.heap.size w w') => (show Calls Tryz.prog 45 #[.pointer (some ⟨bl, 0, none⟩), .int .i64 1] w' fun e w'' => e = .returned (.int .i64 1) ∧ w' = w'' from ls1_ep ▸ epoch_any bl 1 w' (h.below hb).L ls1_good))
  have CA := Lib.hid (fun w' (hb : Below w.heap.size w w') => (show Calls Tryz.prog 98 #[.pointer (some ⟨bm, 0, none⟩), .int .i64 0] w' fun e w'' => e = .returned (.tuple #[.agg #[.int .i64 0, .string { data := #[] }], .bool false]) ∧ Below w'.heap.size w' w'' from mafter_any24 0 k0 false bm w' (hm.below hb) (show 1 ≤ 1000 by decide) rfl))
  have CS := Lib.hid (fun w' (hb : Below w.heap.size w w') => (show Calls Tryz.prog 99 #[.pointer (some ⟨bm, 0, none⟩), .int .i64 0] w' fun e w'' => e = .returned (.int .i64 0) ∧ w' = w'' from mseq_any 0 0 bm w' (hm.below hb) (show 1 ≤ 1000 by decide) rfl))
  have x12 : w.cell? ⟨x, 12, none⟩ = some (.slice (some ⟨ca, 0, none⟩) 1 cc) := co_cell h.box rfl
  have r0 := h.row
  have k0' := h.wk
  have wf : wfI 1 := by unfold wfI; rfl
  clear h hq hm
  go_enter Tryz.func71, Tryz.ntmps71
  go_upto_region 1 with fail
  go_quiet (fail)
  go_upto_region 2 with fail
  generalize hw1 : w.drewN _ = w1 at *
  have B1 := Lib.hid (show Below w.heap.size w w1 from hw1 ▸ below_drewN w _)
  clear hw1 x12 r0 k0'
  have x14 : w1.cell? ⟨x, 14, none⟩ = some (.pointer (some ⟨bl, 0, none⟩)) := co_cell (C.out.below B1.out).box rfl
  have x17 : w1.cell? ⟨x, 17, none⟩ = some (.map (some bq)) := co_cell (C.out.below B1.out).box rfl
  have q7 : w1.cell? ⟨qb, 7, none⟩ = some (.pointer (some ⟨bm, 0, none⟩)) := co_cell (Q.out.below B1.out).q rfl
  go_wp2_with fail
  refine (CE.out _ B1.out).mono ?_
  rintro e w2 ⟨rfl, rfl⟩
  have MQ := Lib.hid (C.out.below B1.out).Q
  go_wp2_with (first | (at_lookup; refine wpList_get_mv mapTq rfl (.tmp 46) (.tmp 47) rfl rfl MQ.out 1 rfl wf (.pointer (some ⟨qb, 0, none⟩)) rfl ?_) | fail)
  refine (CA.out _ B1.out).mono ?_
  rintro e w3 ⟨rfl, hb3⟩
  have hbp := below_one w3 (.cells #[.int .i64 0, .string { data := #[] }] 71)
  have B4 := Lib.hid ((B1.out.trans (hb3.mono B1.out.size)).trans (hbp.mono (B1.out.trans (hb3.mono B1.out.size)).size))
  obtain ⟨p, hp⟩ : ∃ p, w3.heap.size = p := ⟨_, rfl⟩
  have KP := Lib.hid (show (w3.alloc (.cells #[.int .i64 0, .string { data := #[] }] 71)).heap[p]? = some (.cells #[.int .i64 0, .string { data := #[] }] 71 (0, 0)) from by rw [← hp]; exact heap_alloc_new w3 _)
  go_upto_region 7 with fail
  generalize w3.alloc (.cells #[.int .i64 0, .string { data := #[] }] 71) = w4 at *
  clear hbp hb3 x14 x17 q7 MQ
  have C4 := C.out.below B4.out
  have Q4 := Q.out.below B4.out
  have S0 := Lib.hid (show Below w.heap.size w w4.drew ∧ w4.drew.cell? ⟨qb, 7, none⟩ = some (.pointer (some ⟨bm, 0, none⟩)) ∧ w4.drew.cell? ⟨qb, 1, none⟩ = some (.string coA) ∧ w4.drew.cell? ⟨qb, 2, none⟩ = some (.int .i64 1) ∧ w4.drew.cell? ⟨x, 5, none⟩ = some (.int .i64 2) ∧ w4.drew.cell? ⟨p, 0, none⟩ = some (.int .i64 0) ∧ w4.drew.cell? ⟨p, 1, none⟩ = some (.string { data := #[] }) from ⟨B4.out.drew, co_cell Q4.q rfl, co_cell Q4.q rfl, co_cell Q4.q rfl, co_cell C4.box rfl, co_cell KP.out rfl, co_cell KP.out rfl⟩)
  clear C4 Q4
  go_region_held3 (fun w' => Below w.heap.size w w' ∧ w'.cell? ⟨qb, 7, none⟩ = some (.pointer (some ⟨bm, 0, none⟩)) ∧ w'.cell? ⟨qb, 1, none⟩ = some (.string coA) ∧ w'.cell? ⟨qb, 2, none⟩ = some (.int .i64 1) ∧ w'.cell? ⟨x, 5, none⟩ = some (.int .i64 2) ∧ w'.cell? ⟨p, 0, none⟩ = some (.int .i64 0) ∧ w'.cell? ⟨p, 1, none⟩ = some (.string { data := #[] }))
    (first | assumption | exact S0.out | exact ask_carry24 (by assumption) (by assumption) | exact ask_carry24 (by assumption) (below_one _ _))
    (first
      | (go_at_call 99; refine (CS.out _ (And.left (by assumption))).mono ?_; rintro e w5 ⟨rfl, rfl⟩))
  have hb5 := below_one w4 (.cells #[.int .i64 1, .iface 73 askV] 68)
  have FIN := Lib.hid (show Ask24 w (.returned (.slice (some ⟨w4.heap.size, 0, none⟩) 1 1)) (w4.alloc (.cells #[.int .i64 1, .iface 73 askV] 68)).drew from
    ⟨w4.heap.size, rfl, ⟨(cell_alloc (w := w4) rfl).trans rfl, (cell_alloc (w := w4) rfl).trans rfl⟩, B4.out.size, (B4.out.trans (hb5.mono B4.out.size)).drew⟩)
  clear hb5
  go_wp2_with fail
  go_ret
  exact FIN.out
end Go.Proofs.YtblipdmagfiigaaGreat
namespace Go.Proofs.YtblipdmagfiigaaGreat
open Go.RowKit
set_option linter.unusedVariables false
set_option maxRecDepth 20000
variable {B0 : Nat} {col : Nat → Nat} {x ca cc cw c2 bl bs bo ba bt bq n : Nat} {ss : Sl}
theorem timerOf24 (w : World) : Calls Tryz.prog 62 #[.int .i64 0, .int .i64 0] w fun e w' => e = .returned (.int .i64 0) ∧ w = w' := by
  go_enter Tryz.func62, Tryz.ntmps62
  go_wp2_with fail
  go_ret
  exact ⟨rfl, rfl⟩
def M1 : List TM := [⟨0, 2⟩]
theorem set24_m : setM 24 [] 0 2 = M1 := by decide +kernel
theorem set24_v : setV 24 [] 0 2 = 0 := by decide +kernel
theorem wait24 : waitV 2 4 0 0 0 = 2 := by decide +kernel
def See24 (B0 : Nat) (col : Nat → Nat) (x ca cc cw c2 bl bs bo ba bt bq n : Nat) (ss : Sl) (qb : Nat) (w : World) (e : Ending) (w' : World) : Prop :=
  ∃ p col', e = .returned (.slice (some ⟨p, 0, none⟩) 1 1) ∧ One24 w' 1 73 askV p ∧ col' p = 9 ∧ CoS B0 w' col' x ca cc cw c2 bl bs bo ba bt bq n ls1 ss M1 (qmap qb) ∧ Ext w col w' col'
theorem at_carry {w1 a b : World} {x bt : Nat} (h : Below w1.heap.size w1 a ∧ a.cell? ⟨x, 16, none⟩ = some (.pointer (some ⟨bt, 0, none⟩))) (hb : Below a.heap.size a b) : Below w1.heap.size w1 b ∧ b.cell? ⟨x, 16, none⟩ = some (.pointer (some ⟨bt, 0, none⟩)) :=
  ⟨h.1.trans (hb.mono h.1.size), (hb.cell (p := ⟨x, 16, none⟩) (lt_of_cell h.2)).trans h.2⟩
set_option maxRecDepth 100000 in
set_option maxHeartbeats 3200000 in
theorem see24 (qb sb bm : Nat) (ia : Option Addr) (ic : Nat) (w : World) (h : CoS B0 w col x ca cc cw c2 bl bs bo ba bt bq n ls1 ss [] (qmap qb)) (hq : CoQ w col qb sb bm ia ic 0 0 0 false) : Calls Tryz.prog 42 #[.pointer (some ⟨x, 0, none⟩), .int .i64 0, .int .i64 1, .int .i64 0, .int .i64 0] w (See24 B0 col x ca cc cw c2 bl bs bo ba bt bq n ss qb w) := by
  have C := Lib.hid h
  have Q := Lib.hid hq
  obtain ⟨St, ht, hc⟩ := h.T
  have HC := Lib.hid hc
  have TW := Lib.hid ht
  have CT := Lib.hid (fun w' (hb : Below w.heap.size w w') => (show Calls Tryz.prog 68 #[.pointer (some ⟨bt, 0, none⟩), .int .i64 0] w' fun e w'' => e = .returned (.tuple #[.int .i64 0, .bool false]) ∧ Below w'.heap.size w' w'' from (tAt_any bt 24 [] 0 St w' ((tq_ok _ _ _).below ht hb)).mono (by
    rintro e w'' ⟨v, c, rfl, hat, hb2⟩
    rcases hat with ⟨y, hy, -⟩ | ⟨-, rfl, rfl⟩
    · cases hy
    · exact ⟨rfl, hb2⟩)))
  have x17 : w.cell? ⟨x, 17, none⟩ = some (.map (some bq)) := co_cell h.box rfl
  have q8 : w.cell? ⟨qb, 8, none⟩ = some (.slice (some ⟨sb, 0, none⟩) 1 1) := co_cell hq.q rfl
  have wf : wfI 1 := by unfold wfI; rfl
  have S0 := Lib.hid (show Below w.heap.size w w.drew ∧ w.drew.cell? ⟨x, 16, none⟩ = some (.pointer (some ⟨bt, 0, none⟩)) from ⟨(Below.refl _ _).drew, co_cell h.box rfl⟩)
  clear h hq ht hc
  go_enter Tryz.func42, Tryz.ntmps42
  go_upto_region 2 with (first | (at_lookup; refine wpList_get_mv mapTq rfl (.tmp 17) (.tmp 18) rfl rfl C.out.Q 1 rfl wf (.pointer (some ⟨qb, 0, none⟩)) rfl ?_) | fail)
  go_region_held3 (fun w' => Below w.heap.size w w' ∧ w'.cell? ⟨x, 16, none⟩ = some (.pointer (some ⟨bt, 0, none⟩)))
    (first | assumption | exact S0.out | exact at_carry (by assumption) (by assumption))
    (first
      | (go_at_call 62; refine (timerOf24 _).mono ?_; rintro e w2 ⟨rfl, rfl⟩)
      | (go_at_call 68; refine (CT.out _ (And.left (by assumption))).mono ?_; rintro e w3 ⟨rfl, hb3⟩))
  rename_i T5
  have B3 := Lib.hid (show Below w.heap.size w w3 from T5.1)
  clear T5 hb3 x17 q8 S0 CT
  go_upto_region 5 with fail
  have C3 := Lib.hid (C.out.below B3.out)
  have Q3 := Lib.hid (Q.out.below B3.out)
  have CF := Lib.hid (firstLive24 w3.drew (C3.out.below ((Below.refl _ _).drew)))
  have x13 : w3.cell? ⟨x, 13, none⟩ = some (.int .i64 0) := co_cell C3.out.box rfl
  have G := Lib.hid (fun (w4 : World) (hb : Below w3.drew.heap.size w3.drew w4) => (Q3.out.below ((Below.refl w3.heap.size w3).drew.trans hb)).s)
  have GX := Lib.hid (fun (w4 : World) (hb : Below w3.drew.heap.size w3.drew w4) => (C3.out.below ((Below.refl w3.heap.size w3).drew.trans hb)).box)
  go_region_law
    (first
      | (go_simp; go_at_call 69; (with_reducible refine CF.out.mono ?_); rintro e w4 ⟨rfl, hb4⟩; have s0 : w4.cell? ⟨sb, 0, none⟩ = some (.int .i64 0) := co_cell (G.out w4 hb4) rfl; have s1 : w4.cell? ⟨sb, 1, none⟩ = some (.int .i64 0) := co_cell (G.out w4 hb4) rfl; have s2 : w4.cell? ⟨sb, 2, none⟩ = some (.int .i64 0) := co_cell (G.out w4 hb4) rfl; have s3 : w4.cell? ⟨sb, 3, none⟩ = some (.bool false) := co_cell (G.out w4 hb4) rfl; have z0 := fun i => co_fz (G.out w4 hb4) i; have x13' : w4.cell? ⟨x, 13, none⟩ = some (.int .i64 0) := co_cell (GX.out w4 hb4) rfl))
  all_goals
    have hb34 : Below w3.heap.size w3 w4 := (Below.refl w3.heap.size w3).drew.trans hb4
    have C4 := C3.out.below hb34
    have Q4 := Q3.out.below hb34
    have tS : Turn (fun k => k = sb) w4 ((((w4.setCell ⟨sb, 0, none⟩ (.int .i64 0)).setCell ⟨sb, 1, none⟩ (.int .i64 0)).setCell ⟨sb, 2, none⟩ (.int .i64 0)).setCell ⟨sb, 3, none⟩ (.bool false)) := (((Turn.setCell (F := fun k => k = sb) rfl).trans (Turn.setCell (F := fun k => k = sb) rfl)).trans (Turn.setCell (F := fun k => k = sb) rfl)).trans (Turn.setCell (F := fun k => k = sb) rfl)
    have h5 := Go.heap_setCell_same _ sb 3 _ _ (.bool false) (Go.heap_setCell_same _ sb 2 _ _ (.int .i64 0) (Go.heap_setCell_same _ sb 1 _ _ (.int .i64 0) (Go.heap_setCell_same w4 sb 0 _ _ (.int .i64 0) Q4.s)))
    have C5 := Lib.hid (C4.own tS (fun k e => by have := Q4.c.2; rw [e]; omega))
    have Q5 := Lib.hid (show CoQ ((((w4.setCell ⟨sb, 0, none⟩ (.int .i64 0)).setCell ⟨sb, 1, none⟩ (.int .i64 0)).setCell ⟨sb, 2, none⟩ (.int .i64 0)).setCell ⟨sb, 3, none⟩ (.bool false)) col qb sb bm ia ic 0 0 0 false from ⟨(tS.block qb Q4.lts.1 fun e => by have h1 := Q4.c.1; have h2 := Q4.c.2; rw [e] at h1; omega).trans Q4.q, h5.trans (by rfl), by
      obtain ⟨wa3, wc3, Sm3, hm3, hc3⟩ := Q4.m
      exact ⟨wa3, wc3, Sm3, hm3.turn tS (fun k hk e => by have h1 := hc3 k hk; rw [e] at h1; have := Q4.c.2; omega), hc3⟩, Q4.c⟩)
    have E5 := Lib.hid ((((Ext.refl w col).below B3.out).below hb34).turn tS (fun k e => by have := Q4.c.2; rw [e]; omega))
    have T5 := Lib.hid ((tq_ok _ _ _).turn ((tq_ok _ _ _).below ((tq_ok _ _ _).below TW.out B3.out) hb34) tS (fun k hk e => by have h1 := HC.out k hk; rw [e] at h1; have := Q4.c.2; omega))
    clear hb34 C4 Q4 tS h5 s0 s1 s2 s3 z0 x13 x13' hb4
    go_upto_region 12 with fail
    generalize (((w4.setCell ⟨sb, 0, none⟩ (.int .i64 0)).setCell ⟨sb, 1, none⟩ (.int .i64 0)).setCell ⟨sb, 2, none⟩ (.int .i64 0)).setCell ⟨sb, 3, none⟩ (.bool false) = w5 at *
    have HS := Lib.hid (fun (w' : World) (hx : CoBox w' x (some ⟨ca, 0, none⟩) 1 cc (some bl) (some bs) (some bt) bq) (hs : w'.heap[sb]? = some (.cells #[.int .i64 0, .int .i64 0, .int .i64 0, .bool false] 143 (0, 0))) => (show w'.cell? ⟨x, 16, none⟩ = some (.pointer (some ⟨bt, 0, none⟩)) ∧ w'.cell? ⟨x, 13, none⟩ = some (.int .i64 0) ∧ w'.cell? ⟨x, 0, none⟩ = some (.slice none 0 0) ∧ w'.cell? ⟨x, 1, none⟩ = some (.slice none 0 0) ∧ w'.cell? ⟨x, 2, none⟩ = some (.int .i64 1) ∧ w'.cell? ⟨x, 3, none⟩ = some (.int .i64 1) ∧ w'.cell? ⟨x, 4, none⟩ = some (.int .i64 1) ∧ w'.cell? ⟨x, 5, none⟩ = some (.int .i64 2) ∧ w'.cell? ⟨x, 6, none⟩ = some (.int .i64 5) ∧ w'.cell? ⟨x, 7, none⟩ = some (.int .i64 9) ∧ w'.cell? ⟨x, 8, none⟩ = some (.int .i64 2) ∧ w'.cell? ⟨x, 9, none⟩ = some (.int .i64 4) ∧ w'.cell? ⟨x, 10, none⟩ = some (.int .i64 0) ∧ w'.cell? ⟨x, 11, none⟩ = some (.int .i64 8) ∧ w'.cell? ⟨sb, 1, none⟩ = some (.int .i64 0) from ⟨co_cell hx rfl, co_cell hx rfl, co_cell hx rfl, co_cell hx rfl, co_cell hx rfl, co_cell hx rfl, co_cell hx rfl, co_cell hx rfl, co_cell hx rfl, co_cell hx rfl, co_cell hx rfl, co_cell hx rfl, co_cell hx rfl, co_cell hx rfl, co_cell hs rfl⟩))
    have S0 := Lib.hid (HS.out w5.drew C5.out.box Q5.out.s)
    have CW := Lib.hid (fun w' => (show Calls Tryz.prog 73 #[.agg #[.slice none 0 0, .slice none 0 0, .int .i64 1, .int .i64 1, .int .i64 1, .int .i64 2, .int .i64 5, .int .i64 9, .int .i64 2, .int .i64 4, .int .i64 0, .int .i64 8], .int .i64 0, .int .i64 0] w' fun e w'' => e = .returned (.int .i64 2) ∧ Below w'.heap.size w' w'' from wait24 ▸ wait_any _ _ _ _ _ _ _ _ _ 2 4 0 0 0 w'))
    have CSet := Lib.hid (fun w' (h : TQ bt 24 [] w' St) => (show Calls Tryz.prog 72 #[.pointer (some ⟨bt, 0, none⟩), .int .i64 0, .int .i64 2] w' fun e w'' => e = .returned (.int .i64 0) ∧ PO (TQ bt 24 M1) w' St w'' from by
      have hh := tSet_any bt 24 [] 0 2 St w' h (by decide)
      rw [set24_m, set24_v] at hh
      exact hh))
    go_region_held3 (fun w' => w'.cell? ⟨x, 16, none⟩ = some (.pointer (some ⟨bt, 0, none⟩)) ∧ w'.cell? ⟨x, 13, none⟩ = some (.int .i64 0) ∧ w'.cell? ⟨x, 0, none⟩ = some (.slice none 0 0) ∧ w'.cell? ⟨x, 1, none⟩ = some (.slice none 0 0) ∧ w'.cell? ⟨x, 2, none⟩ = some (.int .i64 1) ∧ w'.cell? ⟨x, 3, none⟩ = some (.int .i64 1) ∧ w'.cell? ⟨x, 4, none⟩ = some (.int .i64 1) ∧ w'.cell? ⟨x, 5, none⟩ = some (.int .i64 2) ∧ w'.cell? ⟨x, 6, none⟩ = some (.int .i64 5) ∧ w'.cell? ⟨x, 7, none⟩ = some (.int .i64 9) ∧ w'.cell? ⟨x, 8, none⟩ = some (.int .i64 2) ∧ w'.cell? ⟨x, 9, none⟩ = some (.int .i64 4) ∧ w'.cell? ⟨x, 10, none⟩ = some (.int .i64 0) ∧ w'.cell? ⟨x, 11, none⟩ = some (.int .i64 8) ∧ w'.cell? ⟨sb, 1, none⟩ = some (.int .i64 0))
      (first | assumption | exact S0.out)
      (first
        | (go_at_call 62; refine (timerOf24 _).mono ?_; rintro e w2 ⟨rfl, rfl⟩)
        | (go_at_call 73; refine (CW.out _).mono ?_; rintro e w6 ⟨rfl, hb6⟩; have hb56 : Below w5.heap.size w5 w6 := (Below.refl w5.heap.size w5).drew.trans hb6; have S6 := HS.out w6 (C5.out.below hb56).box (Q5.out.below hb56).s)
        | (go_at_call 72; refine (CSet.out _ ((tq_ok _ _ _).below T5.out hb56)).mono ?_; rintro e w7 ⟨rfl, hP⟩; have S7 := HS.out w7 (((C5.out.below hb56).timers HC.out hP).box) ((Q5.out.below hb56).turn hP.turn (fun k hk => by have := HC.out k hk; omega)).s))
    have C6 := C5.out.below hb56
    have C7 := Lib.hid (C6.timers HC.out hP)
    have Q6 := Q5.out.below hb56
    have Q7 := Lib.hid ((Q6.turn hP.turn (fun k hk => by have := HC.out k hk; omega)).paint (v := w6) (w' := w7) (c := 3) Q6.lts (fun k hk => by
      rcases Nat.lt_or_ge k w6.heap.size with h | h
      · exact h
      · have := C6.nw k h; omega))
    have E7 := Lib.hid (Ext.paint (v := w6) (v' := w7) 3 ((E5.out.below hb56).turn hP.turn (fun k hk => by rw [HC.out k hk]; decide)) (Nat.le_trans E5.out.1.size hb56.size))
    have s0 : w7.cell? ⟨sb, 0, none⟩ = some (.int .i64 0) := co_cell Q7.out.s rfl
    have CA := Lib.hid (ask24 qb sb bm ia ic 0 0 0 false w7 C7.out Q7.out)
    clear C6 Q6 hb56 hP S6 S7 hb6 S0 CSet CW HS
    go_wp2_with fail
    refine CA.out.mono ?_
    rintro e w8 ⟨p, rfl, hone, hp, hb8⟩
    have FIN := Lib.hid (show See24 B0 col x ca cc cw c2 bl bs bo ba bt bq n ss qb w (.returned (.slice (some ⟨p, 0, none⟩) 1 1)) w8 from ⟨p, _, rfl, hone, C7.out.nw p hp, C7.out.below hb8, E7.out.below hb8⟩)
    clear hone hp hb8
    go_wp2_with fail
    go_ret
    exact FIN.out
end Go.Proofs.YtblipdmagfiigaaGreat
namespace Go.Proofs.YtblipdmagfiigaaGreat
open Go.RowKit
set_option linter.unusedVariables false
set_option maxRecDepth 20000
variable {B0 : Nat} {col : Nat → Nat} {x ca cc cw c2 bl bs bo ba bt bq n : Nat}
theorem letter_info24 : (Tryz.prog.info? 68).map (fun i => (i.zero, i.size, i.bytes)) = some (some (.agg #[.int .i64 0, .nilIface]), 2, 24) := by kernel_rfl
theorem own_letter24 {w : World} {B c : Nat} {e : TypeId} {a : Option Addr} {u v : Value} (h : w.ownsRow B e 2 (.slice a 1 c) 1 [u, v]) : ∃ g, a = some ⟨g, 0, none⟩ ∧ B ≤ g ∧ w.cell? ⟨g, 0, none⟩ = some u ∧ w.cell? ⟨g, 1, none⟩ = some v := by
  rcases h.2 with ⟨h0, h1⟩ | ⟨g, cap, cur, hv, hg, hh, _, _, hs, hx⟩
  · cases h1
  · injection hv with hv _ _
    have h3 : ∀ i, i < 2 → cur[i]? = ([u, v] : List Value)[i]? := fun i hi => by
      have h4 : (cur.toList.take (1 * 2))[i]? = ([u, v] : List Value)[i]? := by rw [hx]
      rw [List.getElem?_take_of_lt (by omega)] at h4
      rw [← h4, Array.getElem?_toList]
    exact ⟨g, hv, hg, by rw [Lib.cell_of_heap hh]; exact h3 0 (by omega), by rw [Lib.cell_of_heap hh]; exact h3 1 (by omega)⟩
theorem two_at24 {w : World} {p : Nat} {t : TypeId} {v : Value} (h : One24 w 1 t v p) : ∀ ad, (some ⟨p, 0, none⟩ : Option Addr) = some ad → ∀ j u, ([.int .i64 1, .iface t v] : List Value)[j]? = some u → w.cell? (ad.add j) = some u := by
  intro ad e j u hu
  injection e with e
  subst e
  match j, hu with
  | 0, hu => injection hu with hu; subst hu; exact h.1
  | 1, hu => injection hu with hu; subst hu; exact h.2
  | j + 2, hu => simp at hu
theorem two_one24 (t : TypeId) (v : Value) : ∀ u ∈ ([.int .i64 1, .iface t v] : List Value), u.oneCell' = true := by
  intro u hu
  simp only [List.mem_cons, List.not_mem_nil, or_false] at hu
  rcases hu with rfl | rfl <;> rfl
def Wake24 (B0 : Nat) (col : Nat → Nat) (x ca cc cw c2 bl bs bo ba bt bq n : Nat) (qb : Nat) (w : World) (e : Ending) (w' : World) : Prop :=
  ∃ g c col', e = .returned (.slice (some ⟨g, 0, none⟩) 1 c) ∧ One24 w' 1 73 askV g ∧ CoS B0 w' col' x ca cc cw c2 bl bs bo ba bt bq n ls1 ss1 M1 (qmap qb) ∧ Ext w col w' col'
set_option maxRecDepth 100000 in
set_option maxHeartbeats 3200000 in
theorem wake24 (qb sb bm : Nat) (ia : Option Addr) (ic : Nat) (w : World) (h : CoS B0 w col x ca cc cw c2 bl bs bo ba bt bq n ls1 ss1 [] (qmap qb)) (hq : CoQ w col qb sb bm ia ic 0 0 0 false) : Calls Tryz.prog 15 #[.pointer (some ⟨x, 0, none⟩), .int .i64 0] w (Wake24 B0 col x ca cc cw c2 bl bs bo ba bt bq n qb w) := by
  obtain ⟨i0, hi, hz0, hz1, hz2⟩ := info_parts letter_info24
  have C := Lib.hid h
  have Q := Lib.hid hq
  obtain ⟨wa, wc, Sm, hm, -⟩ := hq.m
  have CAt := Lib.hid (show Calls Tryz.prog 40 #[.pointer (some ⟨bs, 0, none⟩), .int .i64 0] w fun e w' => e = .returned (.tuple #[.int .i64 1, .bool true]) ∧ w = w' from at_any bs bo ba 0 w h.S rfl)
  have CWa := Lib.hid (show Calls Tryz.prog 41 #[.pointer (some ⟨bm, 0, none⟩)] w (RetZ w [0]) from mwants_any bm w hm (show 1 ≤ 1000 by decide))
  have x4 : w.cell? ⟨x, 4, none⟩ = some (.int .i64 1) := co_cell h.box rfl
  have x15 : w.cell? ⟨x, 15, none⟩ = some (.pointer (some ⟨bs, 0, none⟩)) := co_cell h.box rfl
  have x17 : w.cell? ⟨x, 17, none⟩ = some (.map (some bq)) := co_cell h.box rfl
  have q7 : w.cell? ⟨qb, 7, none⟩ = some (.pointer (some ⟨bm, 0, none⟩)) := co_cell hq.q rfl
  have wf : wfI 1 := by unfold wfI; rfl
  clear h hq hm
  go_enter Tryz.func15, Tryz.ntmps15
  go_wp2_with fail
  go_loopw [5, 18] (fun ov iv wr => (iv = .int .i64 0 ∧ ov = .slice none 0 0 ∧ wr = w) ∨ (iv = .int .i64 1 ∧ ∃ g c, ov = .slice (some ⟨g, 0, none⟩) 1 c ∧ Hid (Wake24 B0 col x ca cc cw c2 bl bs bo ba bt bq n qb w (.returned (.slice (some ⟨g, 0, none⟩) 1 c)) wr))) (fun _ iv _ => 1 - (intOf iv).toNat)
  case atStart => exact Or.inl ⟨rfl, rfl, rfl⟩
  case round =>
    rcases hrel with ⟨rfl, rfl, hw⟩ | ⟨rfl, g, c, rfl, hA⟩
    · subst hw
      go_wp2_with fail
      refine CAt.out.mono ?_
      rintro e w2 ⟨rfl, rfl⟩
      go_wp2_with (first | (at_lookup; refine wpList_get_mv mapTq rfl (.tmp 35) (.tmp 36) rfl rfl C.out.Q 1 rfl wf (.pointer (some ⟨qb, 0, none⟩)) rfl ?_) | fail)
      refine CWa.out.mono ?_
      rintro e w3 ⟨a3, c3, rfl, ho3, hb3⟩
      obtain ⟨g3, rfl, -, k3⟩ := own_cell24 ho3
      have B3 := Lib.hid hb3
      clear ho3 hb3 CAt CWa x4 x15 x17 q7
      go_wp2_with fail
      go_loopw [5, 43] (fun ov iv wx => (iv = .int .i64 0 ∧ ov = .slice none 0 0 ∧ wx = w3) ∨ (iv = .int .i64 1 ∧ ∃ g c, ov = .slice (some ⟨g, 0, none⟩) 1 c ∧ Hid (Wake24 B0 col x ca cc cw c2 bl bs bo ba bt bq n qb wr (.returned (.slice (some ⟨g, 0, none⟩) 1 c)) wx))) (fun _ iv _ => 1 - (intOf iv).toNat)
      case atStart => exact Or.inl ⟨rfl, rfl, rfl⟩
      case round =>
        rcases hrel with ⟨rfl, rfl, hw⟩ | ⟨rfl, g, c, rfl, hA⟩
        · subst hw
          rename World => wx
          have CSee := Lib.hid (see24 qb sb bm ia ic wx (C.out.below B3.out) (Q.out.below B3.out))
          go_wp2_with fail
          refine CSee.out.mono ?_
          rintro e w4 ⟨p, col', rfl, hone, hp, hC4, hE4⟩
          have C4 := Lib.hid hC4
          have E4 := Lib.hid (((Ext.refl wr col).below B3.out).trans hE4)
          have O4 := Lib.hid hone
          clear hone hp hC4 hE4 CSee
          go_wp2_with (at_builtin; refine wpList_append_any rfl (.tmp 47) (.tmp 53) 32 rfl w4.heap.size 68 i0 _ 2 24 Tryz.underlying32 hi hz0 hz1 hz2 rfl (by decide) _ 0 [] rfl (World.ownsRow_nil _ _ _ _) _ 1 1 [.int .i64 1, .iface 73 askV] rfl (some_none _) rfl (two_at24 O4.out) (two_one24 _ _) (by unfold maxLen; omega) (by omega) (Nat.le_refl _) ?_; intro a5 c5 w5 hown5 hb5 hnil5)
          obtain ⟨g5, rfl, hg5, k50, k51⟩ := own_letter24 hown5
          have FIN := Lib.hid (show Wake24 B0 col x ca cc cw c2 bl bs bo ba bt bq n qb wr (.returned (.slice (some ⟨g5, 0, none⟩) 1 c5)) w5 from ⟨g5, c5, col', rfl, ⟨k50, k51⟩, C4.out.below hb5, E4.out.below hb5⟩)
          clear hown5 hb5 hnil5 hg5 k50 k51
          go_wp2_with fail
          go_roundw
          case rel => exact Or.inr ⟨rfl, g5, c5, rfl, FIN⟩
          case measure => simp [intOf]
        · go_wp2_with fail
          go_roundw
          case rel => exact Or.inr ⟨rfl, g, c, rfl, hA⟩
          case measure => simp [intOf]
    · go_wp2_with fail
      go_ret
      exact hA.out
end Go.Proofs.YtblipdmagfiigaaGreat
namespace Go.Proofs.YtblipdmagfiigaaGreat
open Go.ChangeShapes Go.WideShapes Go.ChangeAt Go.RowKit
set_option linter.unusedVariables false
set_option maxRecDepth 20000
/-- The slice at a of n bytes holds the bytes bs. -/
def HoldsB (w : World) (a : Option Addr) (n : Nat) (bs : List Nat) : Prop := HoldsI .u8 w a n (bs.map fun b : Nat => (b : Int)) ∧ ∀ b ∈ bs, b < 256
end Go.Proofs.YtblipdmagfiigaaGreat
namespace Go.Proofs.YtblipdmagfiigaaGreat
namespace Cod
/-- the size lowest bytes of v, the most significant one first -/
def bytesOf (v : Nat) : Nat → List Nat
  | 0 => []
  | s + 1 => v / 256 ^ s % 256 :: bytesOf v s
end Cod
end Go.Proofs.YtblipdmagfiigaaGreat
namespace Go.Proofs.YtblipdmagfiigaaGreat
open Go.RowKit
set_option linter.unusedVariables false
set_option maxRecDepth 20000
/-- a number's 64 bits -/
def bitsV (n : Int) : Nat := (IntKind.u64.wrap n).toNat
end Go.Proofs.YtblipdmagfiigaaGreat
namespace Go.Proofs.YtblipdmagfiigaaGreat
open Go.RowKit
set_option linter.unusedVariables false
set_option maxRecDepth 20000
/-- bytes that a slice holds, whoever made them, since w0 -/
structure BB (w0 : World) (bs : List Nat) (a : Option Addr) (c : Nat) (w : World) : Prop where
  h : HoldsB w a bs.length bs
  n : a = none → bs.length = 0 ∧ c = 0
  b : Below w0.heap.size w0 w
def n4 (v : Int) : List Nat := Cod.bytesOf (bitsV v) 4
def n1 (v : Int) : List Nat := Cod.bytesOf (bitsV v) 1
end Go.Proofs.YtblipdmagfiigaaGreat
namespace Go.Proofs.YtblipdmagfiigaaGreat
open Go.RowKit
set_option linter.unusedVariables false
set_option maxRecDepth 20000
structure EdP where
  r : Int
  dst : Int
end Go.Proofs.YtblipdmagfiigaaGreat
namespace Go.Proofs.YtblipdmagfiigaaGreat
open Go.RowKit
set_option linter.unusedVariables false
set_option maxRecDepth 20000
structure GN where
  rests : List Tx
  final : Bool
  edges : List EdP
end Go.Proofs.YtblipdmagfiigaaGreat
namespace Go.Proofs.YtblipdmagfiigaaGreat
open Go.RowKit
set_option linter.unusedVariables false
set_option maxRecDepth 20000
theorem ssM (x : ByteArray) : (x.toList == x.toList) = true := by simp
theorem askM_alike (x : AskP) (w : World) : (Op.equalIn 10000 73 (.agg #[.int .i64 x.slot, .int .i64 x.query, .int .i64 x.shard, .int .i64 x.seq, .int .i64 x.epoch, .string x.text, .int .i64 x.k, .int .i64 x.batch, .bool x.first, .int .i64 x.ad, .string x.aw]) (.agg #[.int .i64 x.slot, .int .i64 x.query, .int .i64 x.shard, .int .i64 x.seq, .int .i64 x.epoch, .string x.text, .int .i64 x.k, .int .i64 x.batch, .bool x.first, .int .i64 x.ad, .string x.aw])).run Tryz.prog w = .ok true w := by
  have f5 := ssM x.text
  have f10 := ssM x.aw
  go_simp
theorem grantM_alike (a b c : Int) (w : World) : (Op.equalIn 10000 79 (.agg #[.int .i64 a, .int .i64 b, .int .i64 c]) (.agg #[.int .i64 a, .int .i64 b, .int .i64 c])).run Tryz.prog w = .ok true w := by
  go_simp
set_option maxHeartbeats 1600000 in
theorem sameGrantM (a b c : Int) (w : World) : Calls Tryz.prog 58 #[.iface 79 (.agg #[.int .i64 a, .int .i64 b, .int .i64 c]), .iface 79 (.agg #[.int .i64 a, .int .i64 b, .int .i64 c])] w fun e w' => e = .returned (.bool true) ∧ Below w.heap.size w w' := by
  have tHello := taGrantHello a b c
  have tGrant := taGrantGrant a b c
  have BX := Lib.hid (show Below w.heap.size w ((w.alloc (.cells #[.int .i64 a, .int .i64 b, .int .i64 c] 79)).alloc (.cells #[.int .i64 a, .int .i64 b, .int .i64 c] 79)) from by
    repeat' (first | exact Below.refl _ _ | refine Below.alloc ?_ (by simp <;> omega) _))
  have heq := fun w => grantM_alike a b c w
  go_enter Tryz.func58, Tryz.ntmps58
  go_wp2_with fail
  go_ret
  exact ⟨rfl, BX.out⟩
set_option maxHeartbeats 1600000 in
theorem sameAskM (x : AskP) (w : World) : Calls Tryz.prog 58 #[.iface 73 (.agg #[.int .i64 x.slot, .int .i64 x.query, .int .i64 x.shard, .int .i64 x.seq, .int .i64 x.epoch, .string x.text, .int .i64 x.k, .int .i64 x.batch, .bool x.first, .int .i64 x.ad, .string x.aw]), .iface 73 (.agg #[.int .i64 x.slot, .int .i64 x.query, .int .i64 x.shard, .int .i64 x.seq, .int .i64 x.epoch, .string x.text, .int .i64 x.k, .int .i64 x.batch, .bool x.first, .int .i64 x.ad, .string x.aw])] w fun e w' => e = .returned (.bool true) ∧ Below w.heap.size w w' := by
  have tHello := taAskHello x
  have tGrant := taAskGrant x
  have tAsk := taAskAsk x
  have BX := Lib.hid (show Below w.heap.size w ((w.alloc (.cells #[.int .i64 x.slot, .int .i64 x.query, .int .i64 x.shard, .int .i64 x.seq, .int .i64 x.epoch, .string x.text, .int .i64 x.k, .int .i64 x.batch, .bool x.first, .int .i64 x.ad, .string x.aw] 73)).alloc (.cells #[.int .i64 x.slot, .int .i64 x.query, .int .i64 x.shard, .int .i64 x.seq, .int .i64 x.epoch, .string x.text, .int .i64 x.k, .int .i64 x.batch, .bool x.first, .int .i64 x.ad, .string x.aw] 73)) from by
    repeat' (first | exact Below.refl _ _ | refine Below.alloc ?_ (by simp <;> omega) _))
  have heq := fun w => askM_alike x w
  go_enter Tryz.func58, Tryz.ntmps58
  go_wp2_with fail
  go_ret
  exact ⟨rfl, BX.out⟩
end Go.Proofs.YtblipdmagfiigaaGreat
namespace Go.Proofs.YtblipdmagfiigaaGreat
open Go.RowKit
set_option linter.unusedVariables false
set_option maxRecDepth 20000
set_option maxHeartbeats 800000 in
theorem sameLetters124 (p1 p2 ca cb : Nat) (t : Int) (v1 v2 : Value) (w : World) (h1 : w.cell? ⟨p1, 0, none⟩ = some (.int .i64 t)) (h2 : w.cell? ⟨p1, 1, none⟩ = some v1) (h3 : w.cell? ⟨p2, 0, none⟩ = some (.int .i64 t)) (h4 : w.cell? ⟨p2, 1, none⟩ = some v2)
    (CS0 : ∀ w', Below w.heap.size w w' → Calls Tryz.prog 58 #[v1, v2] w' fun e w'' => e = .returned (.bool true) ∧ Below w'.heap.size w' w'') :
    Calls Tryz.prog 30 #[.slice (some ⟨p1, 0, none⟩) 1 ca, .slice (some ⟨p2, 0, none⟩) 1 cb] w fun e w' => e = .returned (.bool true) ∧ Below w.heap.size w w' := by
  have CS := Lib.hid CS0
  have SB := Lib.hid (show ∀ w', Below w.heap.size w w' → ((Below w.heap.size w w' ∧ w'.cell? ⟨p1, 0, none⟩ = some (.int .i64 t) ∧ w'.cell? ⟨p1, 1, none⟩ = some v1) ∧ w'.cell? ⟨p2, 0, none⟩ = some (.int .i64 t) ∧ w'.cell? ⟨p2, 1, none⟩ = some v2) from fun w' hb => ⟨⟨hb, (hb.cell (p := ⟨p1, 0, none⟩) (lt_of_cell h1)).trans h1, (hb.cell (p := ⟨p1, 1, none⟩) (lt_of_cell h2)).trans h2⟩, (hb.cell (p := ⟨p2, 0, none⟩) (lt_of_cell h3)).trans h3, (hb.cell (p := ⟨p2, 1, none⟩) (lt_of_cell h4)).trans h4⟩)
  clear h1 h2 h3 h4 CS0
  go_enter Tryz.func30, Tryz.ntmps30
  go_wp2_with fail
  go_loopw [5] (fun iv wr => ∃ j : Nat, iv = .int .i64 j ∧ ((j = 0 ∧ Hid (w = wr)) ∨ (j = 1 ∧ Hid (Below w.heap.size w wr)))) (fun iv _ => 1 - (intOf iv).toNat)
  case atStart => exact ⟨0, rfl, Or.inl ⟨rfl, Lib.hid rfl⟩⟩
  case round =>
    obtain ⟨j, rfl, ⟨rfl, hw⟩ | ⟨rfl, hB⟩⟩ := hrel
    · obtain rfl := hw.out
      go_upto_region 6 with fail
      have hS0 := SB.out w.drew ((Below.refl _ _).drew)
      refine wp_region_held_drew (S := (fun w' => ((Below w.heap.size w w' ∧ w'.cell? ⟨p1, 0, none⟩ = some (.int .i64 t) ∧ w'.cell? ⟨p1, 1, none⟩ = some v1) ∧ w'.cell? ⟨p2, 0, none⟩ = some (.int .i64 t) ∧ w'.cell? ⟨p2, 1, none⟩ = some v2))) (by kernel_rfl) hS0 (fun hHeld0 => ?_)
      clear hS0
      generalize w.drew = X0 at hHeld0 ⊢
      refine wpAnyH_take (i := 0) (oi := { dst := some 17, op := Op.move (Operand.tmp 0), type := 32, pos := "same.go:430", after := #[], guard := none }) (v := ?vz1) rfl (by kernel_rfl) (by kernel_rfl) (by kernel_rfl) (fun _ _ _ h => h) (Or.inl ⟨by rfl, ?hyz1⟩) (by assumption) ?restz1
      case hyz1 => (intro w hSw; (try dsimp only at hSw); go_simp; (try with_reducible rfl))
      try simp only [Act.put, List.setIfInBounds_toArray, List.set_cons_zero, List.set_cons_succ]
      refine wpAnyH_take (i := 1) (oi := { dst := some 18, op := Op.move (Operand.tmp 5), type := 3, pos := "same.go:430", after := #[], guard := none }) (v := ?vz2) rfl (by kernel_rfl) (by kernel_rfl) (by kernel_rfl) (fun _ _ _ h => h) (Or.inl ⟨by rfl, ?hyz2⟩) (by assumption) ?restz2
      case hyz2 => (intro w hSw; (try dsimp only at hSw); go_simp; (try with_reducible rfl))
      try simp only [Act.put, List.setIfInBounds_toArray, List.set_cons_zero, List.set_cons_succ]
      refine wpAnyH_take (i := 2) (oi := { dst := some 19, op := Op.indexAddr 32 (Operand.tmp 17) (Operand.tmp 18), type := 0, pos := "same.go:430", after := #[{ on := 0, ground := Ground.data }, { on := 1, ground := Ground.data }], guard := none }) (v := ?vz3) rfl (by kernel_rfl) (by kernel_rfl) (by kernel_rfl) (fun _ _ _ h => h) (Or.inl ⟨by rfl, ?hyz3⟩) (by assumption) ?restz3
      case hyz3 => (intro w hSw; (try dsimp only at hSw); go_simp; (try with_reducible rfl))
      try simp only [Act.put, List.setIfInBounds_toArray, List.set_cons_zero, List.set_cons_succ]
      refine wpAnyH_take (i := 3) (oi := { dst := some 20, op := Op.fieldAddr 68 (Operand.tmp 19) 0, type := 0, pos := "same.go:430", after := #[{ on := 2, ground := Ground.data }], guard := none }) (v := ?vz4) rfl (by kernel_rfl) (by kernel_rfl) (by kernel_rfl) (fun _ _ _ h => h) (Or.inl ⟨by rfl, ?hyz4⟩) (by assumption) ?restz4
      case hyz4 => (intro w hSw; (try dsimp only at hSw); go_simp; (try with_reducible rfl))
      try simp only [Act.put, List.setIfInBounds_toArray, List.set_cons_zero, List.set_cons_succ]
      refine wpAnyH_take (i := 4) (oi := { dst := some 21, op := Op.load 3 (Operand.tmp 20), type := 3, pos := "same.go:430", after := #[{ on := 3, ground := Ground.data }], guard := none }) (v := ?vz5) rfl (by kernel_rfl) (by kernel_rfl) (by kernel_rfl) (fun _ _ _ h => h) (Or.inl ⟨by rfl, ?hyz5⟩) (by assumption) ?restz5
      case hyz5 => (intro w hSw; (try dsimp only at hSw); go_simp; (try with_reducible rfl))
      try simp only [Act.put, List.setIfInBounds_toArray, List.set_cons_zero, List.set_cons_succ]
      refine wpAnyH_take (i := 5) (oi := { dst := some 22, op := Op.move (Operand.tmp 1), type := 32, pos := "same.go:430", after := #[], guard := none }) (v := ?vz6) rfl (by kernel_rfl) (by kernel_rfl) (by kernel_rfl) (fun _ _ _ h => h) (Or.inl ⟨by rfl, ?hyz6⟩) (by assumption) ?restz6
      case hyz6 => (intro w hSw; (try dsimp only at hSw); go_simp; (try with_reducible rfl))
      try simp only [Act.put, List.setIfInBounds_toArray, List.set_cons_zero, List.set_cons_succ]
      refine wpAnyH_take (i := 6) (oi := { dst := some 23, op := Op.move (Operand.tmp 5), type := 3, pos := "same.go:430", after := #[], guard := none }) (v := ?vz7) rfl (by kernel_rfl) (by kernel_rfl) (by kernel_rfl) (fun _ _ _ h => h) (Or.inl ⟨by rfl, ?hyz7⟩) (by assumption) ?restz7
      case hyz7 => (intro w hSw; (try dsimp only at hSw); go_simp; (try with_reducible rfl))
      try simp only [Act.put, List.setIfInBounds_toArray, List.set_cons_zero, List.set_cons_succ]
      refine wpAnyH_take (i := 7) (oi := { dst := some 24, op := Op.indexAddr 32 (Operand.tmp 22) (Operand.tmp 23), type := 0, pos := "same.go:430", after := #[{ on := 5, ground := Ground.data }, { on := 6, ground := Ground.data }], guard := none }) (v := ?vz8) rfl (by kernel_rfl) (by kernel_rfl) (by kernel_rfl) (fun _ _ _ h => h) (Or.inl ⟨by rfl, ?hyz8⟩) (by assumption) ?restz8
      case hyz8 => (intro w hSw; (try dsimp only at hSw); go_simp; (try with_reducible rfl))
      try simp only [Act.put, List.setIfInBounds_toArray, List.set_cons_zero, List.set_cons_succ]
      refine wpAnyH_take (i := 8) (oi := { dst := some 25, op := Op.fieldAddr 68 (Operand.tmp 24) 0, type := 0, pos := "same.go:430", after := #[{ on := 7, ground := Ground.data }], guard := none }) (v := ?vz9) rfl (by kernel_rfl) (by kernel_rfl) (by kernel_rfl) (fun _ _ _ h => h) (Or.inl ⟨by rfl, ?hyz9⟩) (by assumption) ?restz9
      case hyz9 => (intro w hSw; (try dsimp only at hSw); go_simp; (try with_reducible rfl))
      try simp only [Act.put, List.setIfInBounds_toArray, List.set_cons_zero, List.set_cons_succ]
      refine wpAnyH_take (i := 9) (oi := { dst := some 26, op := Op.load 3 (Operand.tmp 25), type := 3, pos := "same.go:430", after := #[{ on := 8, ground := Ground.data }], guard := none }) (v := ?vz10) rfl (by kernel_rfl) (by kernel_rfl) (by kernel_rfl) (fun _ _ _ h => h) (Or.inl ⟨by rfl, ?hyz10⟩) (by assumption) ?restz10
      case hyz10 => (intro w hSw; (try dsimp only at hSw); go_simp; (try with_reducible rfl))
      try simp only [Act.put, List.setIfInBounds_toArray, List.set_cons_zero, List.set_cons_succ]
      refine wpAnyH_take (i := 10) (oi := { dst := some 27, op := Op.binOp BinOp.neq 3 (Operand.tmp 21) (Operand.tmp 26) 3, type := 4, pos := "same.go:430", after := #[{ on := 4, ground := Ground.data }, { on := 9, ground := Ground.data }], guard := none }) (v := ?vz11) rfl (by kernel_rfl) (by kernel_rfl) (by kernel_rfl) (fun _ _ _ h => h) (Or.inl ⟨by rfl, ?hyz11⟩) (by assumption) ?restz11
      case hyz11 => (intro w hSw; (try dsimp only at hSw); go_simp; (try with_reducible rfl))
      try simp only [Act.put, List.setIfInBounds_toArray, List.set_cons_zero, List.set_cons_succ]
      refine wpAnyH_take (i := 11) (oi := { dst := some 28, op := Op.move (Operand.tmp 27), type := 4, pos := "same.go:430", after := #[{ on := 10, ground := Ground.data }], guard := none }) (v := ?vz12) rfl (by kernel_rfl) (by kernel_rfl) (by kernel_rfl) (fun _ _ _ h => h) (Or.inl ⟨by rfl, ?hyz12⟩) (by assumption) ?restz12
      case hyz12 => (intro w hSw; (try dsimp only at hSw); go_simp; (try with_reducible rfl))
      try simp only [Act.put, List.setIfInBounds_toArray, List.set_cons_zero, List.set_cons_succ]
      refine wpAnyH_take (i := 12) (oi := { dst := some 29, op := Op.move (Operand.tmp 0), type := 32, pos := "same.go:430", after := #[{ on := 11, ground := Ground.guard }], guard := some (11, false) }) (v := ?vz13) rfl (by kernel_rfl) (by kernel_rfl) (by kernel_rfl) (fun _ _ _ h => h) (Or.inl ⟨by rfl, ?hyz13⟩) (by assumption) ?restz13
      case hyz13 => (intro w hSw; (try dsimp only at hSw); go_simp; (try with_reducible rfl))
      try simp only [Act.put, List.setIfInBounds_toArray, List.set_cons_zero, List.set_cons_succ]
      refine wpAnyH_take (i := 13) (oi := { dst := some 30, op := Op.move (Operand.tmp 5), type := 3, pos := "same.go:430", after := #[{ on := 11, ground := Ground.guard }], guard := some (11, false) }) (v := ?vz14) rfl (by kernel_rfl) (by kernel_rfl) (by kernel_rfl) (fun _ _ _ h => h) (Or.inl ⟨by rfl, ?hyz14⟩) (by assumption) ?restz14
      case hyz14 => (intro w hSw; (try dsimp only at hSw); go_simp; (try with_reducible rfl))
      try simp only [Act.put, List.setIfInBounds_toArray, List.set_cons_zero, List.set_cons_succ]
      refine wpAnyH_take (i := 14) (oi := { dst := some 31, op := Op.indexAddr 32 (Operand.tmp 29) (Operand.tmp 30), type := 0, pos := "same.go:430", after := #[{ on := 12, ground := Ground.data }, { on := 13, ground := Ground.data }, { on := 11, ground := Ground.guard }], guard := some (11, false) }) (v := ?vz15) rfl (by kernel_rfl) (by kernel_rfl) (by kernel_rfl) (fun _ _ _ h => h) (Or.inl ⟨by rfl, ?hyz15⟩) (by assumption) ?restz15
      case hyz15 => (intro w hSw; (try dsimp only at hSw); go_simp; (try with_reducible rfl))
      try simp only [Act.put, List.setIfInBounds_toArray, List.set_cons_zero, List.set_cons_succ]
      refine wpAnyH_take (i := 15) (oi := { dst := some 32, op := Op.fieldAddr 68 (Operand.tmp 31) 1, type := 0, pos := "same.go:430", after := #[{ on := 14, ground := Ground.data }, { on := 11, ground := Ground.guard }], guard := some (11, false) }) (v := ?vz16) rfl (by kernel_rfl) (by kernel_rfl) (by kernel_rfl) (fun _ _ _ h => h) (Or.inl ⟨by rfl, ?hyz16⟩) (by assumption) ?restz16
      case hyz16 => (intro w hSw; (try dsimp only at hSw); go_simp; (try with_reducible rfl))
      try simp only [Act.put, List.setIfInBounds_toArray, List.set_cons_zero, List.set_cons_succ]
      refine wpAnyH_take (i := 16) (oi := { dst := some 33, op := Op.load 20 (Operand.tmp 32), type := 20, pos := "same.go:430", after := #[{ on := 15, ground := Ground.data }, { on := 11, ground := Ground.guard }], guard := some (11, false) }) (v := ?vz17) rfl (by kernel_rfl) (by kernel_rfl) (by kernel_rfl) (fun _ _ _ h => h) (Or.inl ⟨by rfl, ?hyz17⟩) (by assumption) ?restz17
      case hyz17 => (intro w hSw; (try dsimp only at hSw); go_simp; (try with_reducible rfl))
      try simp only [Act.put, List.setIfInBounds_toArray, List.set_cons_zero, List.set_cons_succ]
      refine wpAnyH_take (i := 17) (oi := { dst := some 34, op := Op.move (Operand.tmp 1), type := 32, pos := "same.go:430", after := #[{ on := 11, ground := Ground.guard }], guard := some (11, false) }) (v := ?vz18) rfl (by kernel_rfl) (by kernel_rfl) (by kernel_rfl) (fun _ _ _ h => h) (Or.inl ⟨by rfl, ?hyz18⟩) (by assumption) ?restz18
      case hyz18 => (intro w hSw; (try dsimp only at hSw); go_simp; (try with_reducible rfl))
      try simp only [Act.put, List.setIfInBounds_toArray, List.set_cons_zero, List.set_cons_succ]
      refine wpAnyH_take (i := 18) (oi := { dst := some 35, op := Op.move (Operand.tmp 5), type := 3, pos := "same.go:430", after := #[{ on := 11, ground := Ground.guard }], guard := some (11, false) }) (v := ?vz19) rfl (by kernel_rfl) (by kernel_rfl) (by kernel_rfl) (fun _ _ _ h => h) (Or.inl ⟨by rfl, ?hyz19⟩) (by assumption) ?restz19
      case hyz19 => (intro w hSw; (try dsimp only at hSw); go_simp; (try with_reducible rfl))
      try simp only [Act.put, List.setIfInBounds_toArray, List.set_cons_zero, List.set_cons_succ]
      refine wpAnyH_take (i := 19) (oi := { dst := some 36, op := Op.indexAddr 32 (Operand.tmp 34) (Operand.tmp 35), type := 0, pos := "same.go:430", after := #[{ on := 17, ground := Ground.data }, { on := 18, ground := Ground.data }, { on := 11, ground := Ground.guard }], guard := some (11, false) }) (v := ?vz20) rfl (by kernel_rfl) (by kernel_rfl) (by kernel_rfl) (fun _ _ _ h => h) (Or.inl ⟨by rfl, ?hyz20⟩) (by assumption) ?restz20
      case hyz20 => (intro w hSw; (try dsimp only at hSw); go_simp; (try with_reducible rfl))
      try simp only [Act.put, List.setIfInBounds_toArray, List.set_cons_zero, List.set_cons_succ]
      refine wpAnyH_take (i := 20) (oi := { dst := some 37, op := Op.fieldAddr 68 (Operand.tmp 36) 1, type := 0, pos := "same.go:430", after := #[{ on := 19, ground := Ground.data }, { on := 11, ground := Ground.guard }], guard := some (11, false) }) (v := ?vz21) rfl (by kernel_rfl) (by kernel_rfl) (by kernel_rfl) (fun _ _ _ h => h) (Or.inl ⟨by rfl, ?hyz21⟩) (by assumption) ?restz21
      case hyz21 => (intro w hSw; (try dsimp only at hSw); go_simp; (try with_reducible rfl))
      try simp only [Act.put, List.setIfInBounds_toArray, List.set_cons_zero, List.set_cons_succ]
      refine wpAnyH_take (i := 21) (oi := { dst := some 38, op := Op.load 20 (Operand.tmp 37), type := 20, pos := "same.go:430", after := #[{ on := 20, ground := Ground.data }, { on := 11, ground := Ground.guard }], guard := some (11, false) }) (v := ?vz22) rfl (by kernel_rfl) (by kernel_rfl) (by kernel_rfl) (fun _ _ _ h => h) (Or.inl ⟨by rfl, ?hyz22⟩) (by assumption) ?restz22
      case hyz22 => (intro w hSw; (try dsimp only at hSw); go_simp; (try with_reducible rfl))
      try simp only [Act.put, List.setIfInBounds_toArray, List.set_cons_zero, List.set_cons_succ]
      refine wpAnyH_ready (rs := [22]) (by kernel_rfl) (by simp) ?_
      refine AllReadyH.cons (o := { dst := some 39, op := Op.call { callee := Callee.value (Operand.func 58), args := #[Operand.tmp 33, Operand.tmp 38], argTypes := #[20, 20] }, type := 4, pos := "same.go:430", after := #[{ on := 16, ground := Ground.data }, { on := 21, ground := Ground.data }, { on := 11, ground := Ground.chain }, { on := 11, ground := Ground.guard }], guard := some (11, false) }) rfl (fun K hK => ?_) AllReadyH.nil
      rw [if_pos (by rfl)]
      go_simp
      go_at_call 58
      with_reducible refine (CS.out _ hHeld0.1.1).mono ?_
      rintro e X1 ⟨rfl, hb⟩
      go_wp2_with fail
      have B1 := Lib.hid (hHeld0.1.1.trans (hb.mono hHeld0.1.1.size))
      refine hK.out _ _ (SB.out _ B1.out) (fun hHeld1 => ?_)
      clear hb hK K hHeld0
      try simp only [Act.put, List.setIfInBounds_toArray, List.set_cons_zero, List.set_cons_succ]
      refine wpAnyH_take (i := 23) (oi := { dst := some 40, op := Op.unOp UnOp.not 4 (Operand.tmp 39), type := 4, pos := "same.go:430", after := #[{ on := 22, ground := Ground.data }, { on := 11, ground := Ground.guard }], guard := some (11, false) }) (v := ?vz23) rfl (by kernel_rfl) (by kernel_rfl) (by kernel_rfl) (fun _ _ _ h => h) (Or.inl ⟨by rfl, ?hyz23⟩) (by assumption) ?restz23
      case hyz23 => (intro w hSw; (try dsimp only at hSw); go_simp; (try with_reducible rfl))
      try simp only [Act.put, List.setIfInBounds_toArray, List.set_cons_zero, List.set_cons_succ]
      refine wpAnyH_take (i := 24) (oi := { dst := some 41, op := Op.pick (Operand.tmp 28) (Operand.const (Value.bool true)) (Operand.tmp 40), type := 4, pos := "same.go:430", after := #[{ on := 11, ground := Ground.data }, { on := 23, ground := Ground.data }], guard := none }) (v := ?vz24) rfl (by kernel_rfl) (by kernel_rfl) (by kernel_rfl) (fun _ _ _ h => h) (Or.inl ⟨by rfl, ?hyz24⟩) (by assumption) ?restz24
      case hyz24 => (intro w hSw; (try dsimp only at hSw); go_simp; (try with_reducible rfl))
      try simp only [Act.put, List.setIfInBounds_toArray, List.set_cons_zero, List.set_cons_succ]
      refine wpAnyH_done (by kernel_rfl) ?_ _
      go_wp2_with fail
      go_roundw
      case rel => exact ⟨1, rfl, Or.inr ⟨rfl, B1⟩⟩
      case measure => simp [intOf]
    · go_wp2_with fail
      go_ret
      exact ⟨rfl, hB.out⟩
end Go.Proofs.YtblipdmagfiigaaGreat
namespace Go.Proofs.YtblipdmagfiigaaGreat
open Go.RowKit
set_option linter.unusedVariables false
set_option maxRecDepth 20000
theorem timers24 {B0 : Nat} {col : Nat → Nat} {x ca cc cw c2 bl bs bo ba bt bq n : Nat} {ls : Lt} {ss : Sl} {f : Int → Option Value} (w : World) (h : CoS B0 w col x ca cc cw c2 bl bs bo ba bt bq n ls ss M1 f) : Calls Tryz.prog 17 #[.pointer (some ⟨x, 0, none⟩)] w fun e w' => e = .returned (.int .i64 1) ∧ w = w' := by
  obtain ⟨St, hT, -⟩ := h.T
  have CL := Lib.hid (show Calls Tryz.prog 44 #[.pointer (some ⟨bt, 0, none⟩)] w fun e w' => e = .returned (.int .i64 1) ∧ w = w' from tLenT_any bt 24 M1 St w hT)
  have x16 : w.cell? ⟨x, 16, none⟩ = some (.pointer (some ⟨bt, 0, none⟩)) := co_cell h.box rfl
  clear h hT
  go_enter Tryz.func17, Tryz.ntmps17
  go_wp2_with fail
  refine CL.out.mono ?_
  rintro e w2 ⟨rfl, rfl⟩
  go_wp2_with fail
  go_ret
  exact ⟨rfl, rfl⟩
set_option maxRecDepth 100000 in
set_option maxHeartbeats 3200000 in
theorem awake24_any (w : World) : Calls Tryz.prog 7 #[] w fun e w' => e = .returned (.bool true) ∧ Below w.heap.size w w' := by
  go_enter Tryz.func7, Tryz.ntmps7
  go_wp2_with fail
  refine (small24_any w).mono ?_
  rintro e w1 ⟨B, rfl, ok, hb1⟩
  have CN := Lib.hid (cnew_any B w1 ok)
  have B1 := Lib.hid hb1
  clear ok hb1
  go_wp2_with fail
  refine CN.out.mono ?_
  rintro e w2 ⟨col, x, ca, cc, cw, c2, bl, bs, bo, ba, bt, bq, rfl, hC, hb2⟩
  have C2 := Lib.hid (show CoS w1.heap.size w2 col x ca cc cw c2 bl bs bo ba bt bq 0 ls0 ss0 [] (fun _ => none) from hC)
  have B2 := Lib.hid hb2
  clear hC hb2 CN
  go_wp2_with fail
  refine (take24 w2 C2.out).mono ?_
  rintro e w3 ⟨p, rfl, hone, hp, hC3, hb3⟩
  have C3 := Lib.hid hC3
  have B3 := Lib.hid (B2.out.trans hb3)
  have O3 := Lib.hid hone
  have HP := Lib.hid hp
  clear hone hp hC3 hb3 C2 B2
  go_wp2_with fail
  refine (submit24 w3 C3.out).mono ?_
  rintro e w4 ⟨col', qb, sb, bm, ia, ic, rfl, hC4, hQ4, hE4⟩
  have C4 := Lib.hid hC4
  have Q4 := Lib.hid hQ4
  have E4 := Lib.hid hE4
  clear hC4 hQ4 hE4
  go_wp2_with fail
  refine (wake24 qb sb bm ia ic w4 C4.out Q4.out).mono ?_
  rintro e w5 ⟨g, c, col'', rfl, hone5, hC5, hE5⟩
  have hE := E4.out.trans hE5
  have B5 := Lib.hid (show Below w.heap.size w w5 from (B1.out.trans (B3.out.mono B1.out.size)).trans ((hE.1.below (fun k hk => C3.out.lo k hk) C3.out.hB).mono B1.out.size))
  have O5 := Lib.hid (O3.out.turn hE.1 (by have := HP.out; omega))
  have P5 := Lib.hid hone5
  have C5 := Lib.hid hC5
  clear hone5 hC5 hE5 hE C4 Q4 E4 C3 B3 O3 HP
  go_upto_region 8 with fail
  obtain ⟨q, hq⟩ : ∃ q, w5.heap.size = q := ⟨_, rfl⟩
  have hb6 := below_one w5 (.cells #[.int .i64 0, .int .i64 1, .int .i64 0, .int .i64 0, .int .i64 1, .string coA, .int .i64 1, .int .i64 2, .bool true, .int .i64 0, .string { data := #[] }] 73)
  have K6 := Lib.hid (show (w5.alloc (.cells #[.int .i64 0, .int .i64 1, .int .i64 0, .int .i64 0, .int .i64 1, .string coA, .int .i64 1, .int .i64 2, .bool true, .int .i64 0, .string { data := #[] }] 73)).heap[q]? = some (.cells #[.int .i64 0, .int .i64 1, .int .i64 0, .int .i64 0, .int .i64 1, .string coA, .int .i64 1, .int .i64 2, .bool true, .int .i64 0, .string { data := #[] }] 73 (0, 0)) from by rw [← hq]; exact heap_alloc_new w5 _)
  have B6 := Lib.hid (B5.out.trans (hb6.mono B5.out.size))
  have O6 := Lib.hid (O5.out.below hb6)
  have P6 := Lib.hid (P5.out.below hb6)
  have C6 := Lib.hid (C5.out.below hb6)
  rw [hq]
  generalize w5.alloc (.cells #[.int .i64 0, .int .i64 1, .int .i64 0, .int .i64 0, .int .i64 1, .string coA, .int .i64 1, .int .i64 2, .bool true, .int .i64 0, .string { data := #[] }] 73) = w6 at *
  clear hb6 hq O5 P5 C5
  have hb7 := below_one w6 (.cells #[.int .i64 1, .iface 79 (.agg #[.int .i64 1, .int .i64 1, .int .i64 1])] 68)
  have B7 := Lib.hid (B6.out.trans (hb7.mono B6.out.size))
  have L7 : One24 (w6.alloc (.cells #[.int .i64 1, .iface 79 (.agg #[.int .i64 1, .int .i64 1, .int .i64 1])] 68)) 1 79 (.agg #[.int .i64 1, .int .i64 1, .int .i64 1]) w6.heap.size := ⟨(cell_alloc (w := w6) rfl).trans rfl, (cell_alloc (w := w6) rfl).trans rfl⟩
  have O7 := O6.out.below hb7
  have S7 := Lib.hid (sameLetters124 p w6.heap.size 1 1 1 _ _ _ O7.1 O7.2 L7.1 L7.2 (fun w' hb => sameGrantM 1 1 1 w'))
  have K7 := Lib.hid ((hb7.block q (Array.getElem?_eq_some_iff.1 K6.out).1).trans K6.out)
  have P7 := Lib.hid (P6.out.below hb7)
  have C7 := Lib.hid (C6.out.below hb7)
  clear hb7 L7 O7 O6 P6 C6 K6
  go_wp2_with fail
  refine S7.out.mono ?_
  rintro e w8 ⟨rfl, hb8⟩
  have B8 := Lib.hid (B7.out.trans (hb8.mono B7.out.size))
  have K8 := Lib.hid ((hb8.block q (Array.getElem?_eq_some_iff.1 K7.out).1).trans K7.out)
  have P8 := Lib.hid (P7.out.below hb8)
  have C8 := Lib.hid (C7.out.below hb8)
  clear hb8 S7 K7 P7 C7
  have a0 : w8.cell? ⟨q, 0, none⟩ = some (.int .i64 0) := co_cell K8.out rfl
  have a1 : w8.cell? ⟨q, 1, none⟩ = some (.int .i64 1) := co_cell K8.out rfl
  have a2 : w8.cell? ⟨q, 2, none⟩ = some (.int .i64 0) := co_cell K8.out rfl
  have a3 : w8.cell? ⟨q, 3, none⟩ = some (.int .i64 0) := co_cell K8.out rfl
  have a4 : w8.cell? ⟨q, 4, none⟩ = some (.int .i64 1) := co_cell K8.out rfl
  have a5 : w8.cell? ⟨q, 5, none⟩ = some (.string coA) := co_cell K8.out rfl
  have a6 : w8.cell? ⟨q, 6, none⟩ = some (.int .i64 1) := co_cell K8.out rfl
  have a7 : w8.cell? ⟨q, 7, none⟩ = some (.int .i64 2) := co_cell K8.out rfl
  have a8 : w8.cell? ⟨q, 8, none⟩ = some (.bool true) := co_cell K8.out rfl
  have a9 : w8.cell? ⟨q, 9, none⟩ = some (.int .i64 0) := co_cell K8.out rfl
  have a10 : w8.cell? ⟨q, 10, none⟩ = some (.string { data := #[] }) := co_cell K8.out rfl
  have hb9 := below_one w8 (.cells #[.int .i64 1, .iface 73 (.agg #[.int .i64 0, .int .i64 1, .int .i64 0, .int .i64 0, .int .i64 1, .string coA, .int .i64 1, .int .i64 2, .bool true, .int .i64 0, .string { data := #[] }])] 68)
  have B9 := Lib.hid (B8.out.trans (hb9.mono B8.out.size))
  have L9 : One24 (w8.alloc (.cells #[.int .i64 1, .iface 73 (.agg #[.int .i64 0, .int .i64 1, .int .i64 0, .int .i64 0, .int .i64 1, .string coA, .int .i64 1, .int .i64 2, .bool true, .int .i64 0, .string { data := #[] }])] 68)) 1 73 askV w8.heap.size := ⟨(cell_alloc (w := w8) rfl).trans rfl, (cell_alloc (w := w8) rfl).trans rfl⟩
  have P9 := P8.out.below hb9
  have S9 := Lib.hid (sameLetters124 g w8.heap.size c 1 1 _ _ _ P9.1 P9.2 L9.1 L9.2 (fun w' hb => sameAskM ⟨0, 1, 0, 0, 1, coA, 1, 2, true, 0, { data := #[] }⟩ w'))
  have C9 := Lib.hid (C8.out.below hb9)
  clear hb9 L9 P9 P8 C8 K8
  go_wp2_with fail
  refine S9.out.mono ?_
  rintro e w10 ⟨rfl, hb10⟩
  have BF := Lib.hid (B9.out.trans (hb10.mono B9.out.size))
  have CT := Lib.hid (timers24 w10 (C9.out.below hb10))
  clear hb10 S9 C9 a0 a1 a2 a3 a4 a5 a6 a7 a8 a9 a10
  go_wp2_with fail
  refine CT.out.mono ?_
  rintro e w11 ⟨rfl, rfl⟩
  go_wp2_with fail
  go_ret
  exact ⟨rfl, BF.out⟩
end Go.Proofs.YtblipdmagfiigaaGreat
namespace Go.Proofs.YtblipdmagfiigaaGreat
open Go.ChangeShapes Go.WideShapes Go.ChangeAt Go.RowKit Go.Deep
set_option linter.unusedVariables false
set_option maxRecDepth 20000
theorem open_rows_cell {H : Type} {enc : TypeId × Value → H} {P : Program} {W : World} {t e : TypeId} {k : Nat} {c : Value} {fuel : Nat} {y : DataW H × List MemPlace}
    (ht : P.underlying t = some (.slice e)) (hc : P.cellsOf e = k) (hk : 0 < k) (good : List Value → Prop)
    (hgood : ∀ m cs y, DataW.trod enc P W 0 (fun _ => true) true m e cs = some y → good cs)
    (hf : DataW.trod enc P W 0 (fun _ => true) true fuel t [c] = some y) :
    ∃ (a : Option Addr) (n cap : Nat) (R : Nat → List Value), c = .slice a n cap ∧ (a = none → n = 0 ∧ cap = 0) ∧ n ≤ cap ∧ cap ≤ maxLen ∧ (∀ i, i < n → good (R i)) ∧
      (0 < n → ∃ b o, a = some ⟨b, o, none⟩ ∧ ∀ i, i < n → ∀ j, j < k → W.cell? ⟨b, o + i * k + j, none⟩ = (R i)[j]?) := by
  rcases open_slice ht hf with ⟨hcs, _⟩ | ⟨x, len, cap, m, n, D, Pl, hcs, _, hl, hm, hmm, _, hx⟩
  · obtain rfl : c = .slice none 0 0 := by simpa using hcs
    exact ⟨none, 0, 0, fun _ => [], rfl, fun _ => ⟨rfl, rfl⟩, Nat.le_refl _, by unfold maxLen; omega, by simp, by simp⟩
  · obtain rfl : c = .slice (some x) len cap := by simpa using hcs
    simp at hmm
    subst hmm
    rw [hc] at hx
    have hR : ∀ i, ∃ cs' : List Value, i < m → W.cells? 0 (x.add (i * k)) k = some cs' ∧ good cs' := fun i => by
      by_cases hi : i < m
      · obtain ⟨cs', h1, h2⟩ := hx i hi
        exact ⟨cs', fun _ => ⟨h1, hgood _ _ _ h2⟩⟩
      · exact ⟨[], fun h => absurd h hi⟩
    refine ⟨some x, len, m, fun i => (hR i).choose, rfl, (fun h => by cases h), hl, hm, fun i hi => ((hR i).choose_spec (by omega)).2, fun h0 => ?_⟩
    have h1 := fun i (hi : i < m) => (World.cells?_some ((hR i).choose_spec hi).1)
    obtain ⟨b, off, spot⟩ := x
    have hspot : spot = none := by
      have h2 := (h1 0 (by omega)).2.2 0 hk
      have h3 := (h1 0 (by omega)).2.1
      have h4 : ((hR 0).choose)[0]? = some (((hR 0).choose)[0]'(by omega)) := List.getElem?_eq_getElem _
      rw [h4] at h2
      simpa [Addr.add] using World.cell?_spot h2
    subst hspot
    refine ⟨b, off, rfl, fun i hi j hj => ?_⟩
    have h2 := (h1 i (by omega)).2.2 j hj
    rw [← h2, Go.WideShapes.add_plain, Go.WideShapes.add_plain]
end Go.Proofs.YtblipdmagfiigaaGreat
namespace Go.Proofs.YtblipdmagfiigaaGreat
open Go.ChangeShapes Go.WideShapes Go.ChangeAt Go.RowKit Go.Deep
set_option linter.unusedVariables false
set_option maxRecDepth 20000
theorem open_pairs_cell {H : Type} {enc : TypeId × Value → H} {W : World} {c : Value} {fuel : Nat} {y : DataW H × List MemPlace} {t e : TypeId} {fs : Array Field} {f0 f1 : Field}
    (ht : Tryz.prog.underlying t = some (.slice e)) (he : Tryz.prog.underlying e = some (.struct fs)) (hc : Tryz.prog.cellsOf e = 2) (hf0 : fs[0]? = some f0) (hf1 : fs[1]? = some f1) (g0 : f0.type = 3 ∧ f0.offset = 0) (g1 : f1.type = 9 ∧ f1.offset = 1)
    (hf : DataW.trod enc Tryz.prog W 0 (fun _ => true) true fuel t [c] = some y) :
    ∃ a n cap ks, c = .slice a n cap ∧ HoldsK W a n ks ∧ (a = none → n = 0 ∧ cap = 0) ∧ n ≤ cap ∧ n ≤ 9223372036854775807 ∧ ∀ k ∈ ks, KeyOk k := by
  obtain ⟨a, n, cap, R, rfl, hnil, h1, h2, hg, hc⟩ := open_rows_cell ht hc (by omega) (fun cs => ∃ k : KV, KeyOk k ∧ cs = [.int .i64 k.1, .string k.2]) (fun _ _ _ h => pair_of he hc hf0 hf1 g0 g1 h) hf
  have hx : ∀ i, ∃ k : KV, i < n → KeyOk k ∧ R i = [.int .i64 k.1, .string k.2] := fun i => by
    by_cases hi : i < n
    · obtain ⟨x, h3⟩ := hg i hi
      exact ⟨x, fun _ => h3⟩
    · exact ⟨k0, fun h => absurd h hi⟩
  have hget : ∀ i, i < n → ((List.range n).map fun i => (hx i).choose).getD i k0 = (hx i).choose := fun i hi => by simp [List.getD_eq_getElem?_getD, hi]
  refine ⟨a, n, cap, (List.range n).map fun i => (hx i).choose, rfl, ⟨by simp, fun h0 => ?_⟩, hnil, h1, by unfold maxLen at h2; omega, fun k hk => ?_⟩
  · obtain ⟨b, o, ha, hcell⟩ := hc h0
    refine ⟨b, o, ha, fun i hi => ?_⟩
    have e := ((hx i).choose_spec hi).2
    have c0 := hcell i hi 0 (by omega)
    have c1 := hcell i hi 1 (by omega)
    rw [e] at c0 c1
    rw [hget i hi]
    exact ⟨by simpa using c0, by simpa using c1⟩
  · obtain ⟨i, hi, rfl⟩ := List.mem_map.1 hk
    exact ((hx i).choose_spec (by simpa using hi)).1
end Go.Proofs.YtblipdmagfiigaaGreat
namespace Go.Proofs.YtblipdmagfiigaaGreat
open Go.ChangeShapes Go.WideShapes Go.ChangeAt Go.RowKit
set_option linter.unusedVariables false
set_option maxRecDepth 20000
/-- A struct by value, opened: its cells, and of each field its own reading. -/
theorem open_aggs2 {H : Type} {enc : TypeId × Value → H} {P : Program} {w : World} {base : Nat} {spare : Nat → Bool} {held : Bool} {r : Reach} {b0 : Nat} {t : TypeId} {fs : Array Field} {v : Value} {d : DataW H} {p : List MemPlace}
    (hs : P.underlying t = some (.struct fs)) (hv : Value.okWide P w r b0 t v) (h : DataW.Trod enc P w base spare held t v d p) :
    ∃ cs : Array Value, v = .agg cs ∧ cs.size = P.cellsOf t ∧ ∃ n, ∀ (i : Nat) (f : Field), fs[i]? = some f → ∃ y, DataW.trod enc P w base spare held n f.type ((cs.toList.drop f.offset).take (P.cellsOf f.type)) = some y := by
  obtain ⟨cs, rfl, hsz⟩ := okWide_struct hs hv
  obtain ⟨fuel, hf⟩ := h
  obtain ⟨xs, n, _, _, hl, hlen, hx⟩ := DataW.trod_struct hs hf
  refine ⟨cs, rfl, hsz, n, fun i f hi => ?_⟩
  have h1 := hx i f hi
  have hlt : i < xs.length := by
    rw [hlen]
    rcases Nat.lt_or_ge i fs.size with h' | h'
    · exact h'
    · rw [Array.getElem?_eq_none h'] at hi; cases hi
  rw [List.getElem?_eq_getElem hlt] at h1
  exact ⟨_, by simpa [Value.cells] using h1⟩
theorem array12c {α : Type} {cs : Array α} (h : cs.size = 12) : ∃ c0 c1 c2 c3 c4 c5 c6 c7 c8 c9 c10 c11, cs = #[c0, c1, c2, c3, c4, c5, c6, c7, c8, c9, c10, c11] := by
  obtain ⟨l⟩ := cs
  match l, h with
  | [c0, c1, c2, c3, c4, c5, c6, c7, c8, c9, c10, c11], _ => exact ⟨c0, c1, c2, c3, c4, c5, c6, c7, c8, c9, c10, c11, rfl⟩
theorem open_texts_cell {H : Type} {enc : TypeId × Value → H} {W : World} {v : Value} {fuel : Nat} {y : DataW H × List MemPlace}
    (hf : DataW.trod enc Tryz.prog W 0 (fun _ => true) true fuel 50 [v] = some y) :
    ∃ a n cap ts, v = .slice a n cap ∧ HoldsT W a n ts ∧ (a = none → n = 0 ∧ cap = 0) ∧ n ≤ cap ∧ n ≤ 9223372036854775807 ∧ ∀ t ∈ ts, t.size ≤ 9223372036854775807 := by
  rcases open_strings Tryz.underlying50 Tryz.underlying9 Tryz.cellsStr hf with ⟨hcs, _⟩ | ⟨x, l, c, ss, hcs, _, hl, hm, hz, _, hcell, hsz⟩
  · obtain rfl : v = .slice none 0 0 := by simpa using hcs
    exact ⟨none, 0, 0, [], rfl, HoldsT.nil _ _, fun _ => ⟨rfl, rfl⟩, Nat.le_refl _, by omega, by simp⟩
  · obtain rfl : v = .slice (some x) l c := by simpa using hcs
    have hzc : ss.length = c := by simpa using hz
    refine ⟨some x, l, c, ss.take l, rfl, ?_, (fun h => by cases h), hl, by unfold maxLen at hm; omega, fun t ht => by have := hsz t (List.mem_of_mem_take ht); unfold maxLen at this; omega⟩
    refine ⟨by simp [strsV]; omega, fun h0 => ?_⟩
    obtain ⟨b, off, spot⟩ := x
    have hspot : spot = none := by simpa [Addr.add] using World.cell?_spot (hcell 0 (by omega))
    subst hspot
    refine ⟨b, off, rfl, fun i hi => ?_⟩
    rw [← Go.WideShapes.add_plain, hcell i (by omega), getD_map_str _ i (by simp; omega)]
    congr 2
    simp only [List.getD_eq_getElem?_getD, List.getElem?_take]
    rw [if_pos hi]
theorem cells_cfg : Tryz.prog.cellsOf 53 = 12 := by kernel_rfl
theorem cells_ci : Tryz.prog.cellsOf 3 = 1 := by kernel_rfl
theorem cells_ct : Tryz.prog.cellsOf 50 = 1 := by kernel_rfl
theorem cells_ck : Tryz.prog.cellsOf 51 = 1 := by kernel_rfl
theorem cfg_int {H : Type} {enc : TypeId × Value → H} {W : World} {c : Value} {fuel : Nat} {y : DataW H × List MemPlace} (hy : DataW.trod enc Tryz.prog W 0 (fun _ => true) true fuel 3 [c] = some y) : ∃ k : Int, c = .int .i64 k := by
  obtain ⟨k, hk, _⟩ := DataW.trod_int Tryz.underlying3 hy
  exact ⟨k, by simpa using hk⟩
set_option maxRecDepth 100000 in
theorem open_cfg2 {H : Type} {enc : TypeId × Value → H} {W : World} {base : Nat} {v : Value} {d : DataW H} {p : List MemPlace}
    (hv : Value.okWide Tryz.prog W .any base 53 v) (h : DataW.Trod enc Tryz.prog W 0 (fun _ => true) true 53 v d p) :
    ∃ c : Cfg, v = .agg #[.slice c.wa c.wn c.wc, .slice c.ka c.kn c.kc, .int .i64 c.W, .int .i64 c.C, .int .i64 c.S, .int .i64 c.B, .int .i64 c.L, .int .i64 c.H, .int .i64 c.F, .int .i64 c.P, .int .i64 c.J, .int .i64 c.N] ∧ CfgOk W c ∧ (c.ka = none → c.kn = 0 ∧ c.kc = 0) := by
  obtain ⟨cs, rfl, hsz, n, hf⟩ := open_aggs2 Tryz.underlying53 hv h
  obtain ⟨c0, c1, c2, c3, c4, c5, c6, c7, c8, c9, c10, c11, rfl⟩ := array12c (hsz.trans cells_cfg)
  obtain ⟨y0, z0⟩ := hf 0 _ rfl
  obtain ⟨wa, wn, wc, ws, rfl, q1, q2, q3, q4, q5⟩ := open_texts_cell (v := c0) (by simpa [cells_ct] using z0)
  obtain ⟨y1, z1⟩ := hf 1 _ rfl
  obtain ⟨ka, kn, kc, ks, rfl, r1, r2, r3, r4, r5⟩ := open_pairs_cell (c := c1) Tryz.underlying51 Tryz.underlying105 (by kernel_rfl) rfl rfl ⟨rfl, rfl⟩ ⟨rfl, rfl⟩ (by simpa [cells_ck] using z1)
  obtain ⟨y2, z2⟩ := hf 2 _ rfl
  obtain ⟨i2, rfl⟩ := cfg_int (c := c2) (by simpa [cells_ci] using z2)
  obtain ⟨y3, z3⟩ := hf 3 _ rfl
  obtain ⟨i3, rfl⟩ := cfg_int (c := c3) (by simpa [cells_ci] using z3)
  obtain ⟨y4, z4⟩ := hf 4 _ rfl
  obtain ⟨i4, rfl⟩ := cfg_int (c := c4) (by simpa [cells_ci] using z4)
  obtain ⟨y5, z5⟩ := hf 5 _ rfl
  obtain ⟨i5, rfl⟩ := cfg_int (c := c5) (by simpa [cells_ci] using z5)
  obtain ⟨y6, z6⟩ := hf 6 _ rfl
  obtain ⟨i6, rfl⟩ := cfg_int (c := c6) (by simpa [cells_ci] using z6)
  obtain ⟨y7, z7⟩ := hf 7 _ rfl
  obtain ⟨i7, rfl⟩ := cfg_int (c := c7) (by simpa [cells_ci] using z7)
  obtain ⟨y8, z8⟩ := hf 8 _ rfl
  obtain ⟨i8, rfl⟩ := cfg_int (c := c8) (by simpa [cells_ci] using z8)
  obtain ⟨y9, z9⟩ := hf 9 _ rfl
  obtain ⟨i9, rfl⟩ := cfg_int (c := c9) (by simpa [cells_ci] using z9)
  obtain ⟨y10, z10⟩ := hf 10 _ rfl
  obtain ⟨i10, rfl⟩ := cfg_int (c := c10) (by simpa [cells_ci] using z10)
  obtain ⟨y11, z11⟩ := hf 11 _ rfl
  obtain ⟨i11, rfl⟩ := cfg_int (c := c11) (by simpa [cells_ci] using z11)
  exact ⟨⟨wa, wn, wc, ka, kn, kc, i2, i3, i4, i5, i6, i7, i8, i9, i10, i11, ws, ks⟩, rfl, ⟨q1, q2, q3, q4, q5, r1, r4, r5⟩, r2⟩
end Go.Proofs.YtblipdmagfiigaaGreat
namespace Go.Proofs.YtblipdmagfiigaaGreat
open Go.RowKit
set_option linter.unusedVariables false
set_option maxRecDepth 20000
open Go.ChangeShapes Go.WideShapes Go.ChangeAt in
theorem queryG_arg {H : Type} {enc : TypeId × Value → H} {w : World} {base : Nat} {spare : Nat → Bool} {held : Bool} {r : Reach} {b0 : Nat} {v : Value} {d : DataW H} {p : List MemPlace}
    (hv : Value.okWide Tryz.prog w r b0 23 v) (h : DataW.Trod enc Tryz.prog w base spare held 23 v d p) :
    ∃ t k n, t.size ≤ 9223372036854775807 ∧ (Lit.int .i64 k).wf = true ∧ (Lit.int .i64 n).wf = true ∧ v = .agg #[.string t, .int .i64 k, .int .i64 n] := by
  obtain ⟨cs, rfl, hsz⟩ := okWide_struct Tryz.underlying23 hv
  obtain ⟨fuel, hf⟩ := h
  obtain ⟨hl, n, hf2⟩ := struct_cells Tryz.underlying23 hf
  rw [show Tryz.prog.cellsOf 23 = 3 by kernel_rfl] at hl
  obtain ⟨c0, c1, c2, hcs⟩ := list3 hl
  rw [hcs] at hf2
  obtain ⟨y0, z0⟩ := hf2 0 _ rfl
  obtain ⟨y1, z1⟩ := hf2 1 _ rfl
  obtain ⟨y2, z2⟩ := hf2 2 _ rfl
  obtain ⟨s, hs, _, b0⟩ := DataW.trod_string Tryz.underlying9 z0
  obtain ⟨k1, h1, _, b1⟩ := DataW.trod_int Tryz.underlying3 z1
  obtain ⟨k2, h2, _, b2⟩ := DataW.trod_int Tryz.underlying3 z2
  simp [cellsK_int, cellsK_str] at hs h1 h2
  subst hs h1 h2
  refine ⟨s, k1, k2, by unfold maxLen at b0; exact b0, b1, b2, ?_⟩
  congr 1
  apply Array.toList_inj.1
  simpa [Value.cells] using hcs
end Go.Proofs.YtblipdmagfiigaaGreat
namespace Go.Proofs.YtblipdmagfiigaaGreat
open Go.RowKit
set_option linter.unusedVariables false
set_option maxRecDepth 20000
def BTru (w : World) (e : Ending) (w' : World) : Prop := e = .returned (.bool true) ∧ Below w.heap.size w w'
set_option maxRecDepth 100000 in
set_option maxHeartbeats 12800000 in
theorem coordFirst_any (c : Cfg) (t : Tx) (K N : Int) (da : Option Addr) (dn dc : Nat) (ds : List Int) (wt : Int) (w : World) (ok : CfgOk w c) (hka : c.ka = none → c.kn = 0 ∧ c.kc = 0) (hts : t.size ≤ 9223372036854775807) (hd : HoldsI .i64 w da dn ds) (hdn : dn ≤ dc ∧ dc ≤ maxLen) :
    Calls Tryz.prog 4 #[.agg #[.slice c.wa c.wn c.wc, .slice c.ka c.kn c.kc, .int .i64 c.W, .int .i64 c.C, .int .i64 c.S, .int .i64 c.B, .int .i64 c.L, .int .i64 c.H, .int .i64 c.F, .int .i64 c.P, .int .i64 c.J, .int .i64 c.N], .agg #[.string t, .int .i64 K, .int .i64 N], .slice da dn dc, .int .i64 wt] w (BTru w) := by
  have BX := Lib.hid (below_one w (.cells (cfgCells c) 53))
  obtain ⟨p, hp⟩ : ∃ p, w.heap.size = p := ⟨_, rfl⟩
  have K0 := Lib.hid (show cfgB c (w.alloc (.cells (cfgCells c) 53)) p from by unfold cfgB; rw [← hp]; exact heap_alloc_new w _)
  have BY := Lib.hid (below_one (w.alloc (.cells (cfgCells c) 53)) (.cells #[.string t, .int .i64 K, .int .i64 N] 23))
  obtain ⟨pq, hpq⟩ : ∃ q, (w.alloc (.cells (cfgCells c) 53)).heap.size = q := ⟨_, rfl⟩
  have HPQ := Lib.hid (show pq = p + 1 from by rw [← hpq, ← hp]; simp)
  have Y1 := Lib.hid (show qyB t K N ((w.alloc (.cells (cfgCells c) 53)).alloc (.cells #[.string t, .int .i64 K, .int .i64 N] 23)) pq from by unfold qyB; rw [← hpq]; exact heap_alloc_new _ _)
  have K1 := Lib.hid (show cfgB c ((w.alloc (.cells (cfgCells c) 53)).alloc (.cells #[.string t, .int .i64 K, .int .i64 N] 23)) p from (BY.out.block p (Array.getElem?_eq_some_iff.1 K0.out).1).trans K0.out)
  have B1 := Lib.hid (BX.out.trans (BY.out.mono BX.out.size))
  have OK := Lib.hid ok
  have HKA := Lib.hid hka
  have HD := Lib.hid hd
  have HP := Lib.hid hp
  have HTS := Lib.hid hts
  have CG := Lib.hid (greatC_any c _ (ok.below B1.out))
  have FIN := Lib.hid (fun w3 (hb3 : Below w.heap.size w w3) => (awake24_any w3).mono (fun e w4 (h : _ ∧ _) => (show BTru w e w4 from ⟨h.1, hb3.trans (h.2.mono hb3.size)⟩)))
  have hdl : (dn : Int) ≤ 9223372036854775807 := by have h1 := hdn.1; have h2 := hdn.2; unfold maxLen at h2; omega
  have hsl : (t.size : Int) ≤ 9223372036854775807 := by omega
  clear ok hka hd hdn hts K0 BY hpq
  go_enter Tryz.func4, Tryz.ntmps4
  go_upto_region 1 with fail
  rw [← HPQ.out]
  show Code.wp _ _ _ _ ((w.alloc (.cells (cfgCells c) 53)).alloc (.cells #[.string t, .int .i64 K, .int .i64 N] 23))
  generalize ((w.alloc (.cells (cfgCells c) 53)).alloc (.cells #[.string t, .int .i64 K, .int .i64 N] 23)) = w1 at *
  obtain ⟨f0, f1, f2, f3, f4, f5, f6, f7, f8, f9, f10, f11⟩ := cfg_cells K1.out
  have e0 : w1.cell? ⟨pq, 0, none⟩ = some (.string t) := co_cell Y1.out rfl
  have e1 : w1.cell? ⟨pq, 1, none⟩ = some (.int .i64 K) := co_cell Y1.out rfl
  have e2 : w1.cell? ⟨pq, 2, none⟩ = some (.int .i64 N) := co_cell Y1.out rfl
  go_wp2_with fail
  refine CG.out.mono ?_
  rintro e w2 ⟨z, rfl, hb2⟩
  have B2 := Lib.hid (B1.out.trans (hb2.mono B1.out.size))
  have K2 := Lib.hid (show cfgB c w2 p from (hb2.block p (Array.getElem?_eq_some_iff.1 K1.out).1).trans K1.out)
  have Y2 := Lib.hid (show qyB t K N w2 pq from (hb2.block pq (Array.getElem?_eq_some_iff.1 Y1.out).1).trans Y1.out)
  clear hb2 CG f0 f1 f2 f3 f4 f5 f6 f7 f8 f9 f10 f11 e0 e1 e2 K1 Y1 BX
  obtain ⟨f0, f1, f2, f3, f4, f5, f6, f7, f8, f9, f10, f11⟩ := cfg_cells K2.out
  have e0 : w2.cell? ⟨pq, 0, none⟩ = some (.string t) := co_cell Y2.out rfl
  have e1 : w2.cell? ⟨pq, 1, none⟩ = some (.int .i64 K) := co_cell Y2.out rfl
  have e2 : w2.cell? ⟨pq, 2, none⟩ = some (.int .i64 N) := co_cell Y2.out rfl
  cases z with
  | true =>
    go_wp2_with fail
    refine (FIN.out _ B2.out).mono ?_
    rintro e w9 ⟨rfl, hb9⟩
    have B9 := Lib.hid hb9
    clear hb9
    go_wp2_with fail
    go_ret
    exact ⟨rfl, B9.out⟩
  | false =>
  by_cases h100 : 100 < t.size
  · have g1 : decide ((t.size : Int) > 100) = true := decide_eq_true (by omega)
    have g2 : decide (100 < t.size) = true := decide_eq_true h100
    go_wp2_with fail
    refine (FIN.out _ B2.out).mono ?_
    rintro e w9 ⟨rfl, hb9⟩
    have B9 := Lib.hid hb9
    clear hb9
    go_wp2_with fail
    go_ret
    exact ⟨rfl, B9.out⟩
  have g1 : decide ((t.size : Int) > 100) = false := decide_eq_false (by omega)
  have g2 : decide (100 < t.size) = false := decide_eq_false h100
  by_cases h20 : 20 < dn
  · have g3 : decide ((dn : Int) > 20) = true := decide_eq_true (by omega)
    have g4 : decide (20 < dn) = true := decide_eq_true h20
    go_wp2_with fail
    refine (FIN.out _ B2.out).mono ?_
    rintro e w9 ⟨rfl, hb9⟩
    have B9 := Lib.hid hb9
    clear hb9
    go_wp2_with fail
    go_ret
    exact ⟨rfl, B9.out⟩
  have g3 : decide ((dn : Int) > 20) = false := decide_eq_false (by omega)
  have g4 : decide (20 < dn) = false := decide_eq_false h20
  obtain ⟨zm, hzm⟩ : ∃ zm, c.may = zm := ⟨_, rfl⟩
  have CM := Lib.hid (may_cfg c zm w2 (OK.out.below B2.out) hzm)
  cases zm with
  | false =>
    clear hzm
    go_wp2_with fail
    refine CM.out.mono ?_
    rintro e w3 ⟨rfl, hb3⟩
    have B3 := Lib.hid (B2.out.trans (hb3.mono B2.out.size))
    clear hb3
    go_wp2_with fail
    refine (FIN.out _ B3.out).mono ?_
    rintro e w9 ⟨rfl, hb9⟩
    have B9 := Lib.hid hb9
    clear hb9
    go_wp2_with fail
    go_ret
    exact ⟨rfl, B9.out⟩
  | true =>
  have HM := Lib.hid hzm
  clear hzm
  go_wp2_with fail
  refine CM.out.mono ?_
  rintro e w3 ⟨rfl, hb3⟩
  have B3 := Lib.hid (B2.out.trans (hb3.mono B2.out.size))
  have K3 := Lib.hid (show cfgB c w3 p from (hb3.block p (Array.getElem?_eq_some_iff.1 K2.out).1).trans K2.out)
  have Y3 := Lib.hid (show qyB t K N w3 pq from (hb3.block pq (Array.getElem?_eq_some_iff.1 Y2.out).1).trans Y2.out)
  obtain ⟨zq, hzq⟩ : ∃ z, decide (mayP t K N) = z := ⟨_, rfl⟩
  have CQ := Lib.hid (qmay_lit t K N zq w3 HTS.out hzq)
  clear hb3 CM K2 Y2 B2 f0 f1 f2 f3 f4 f5 f6 f7 f8 f9 f10 f11 e0 e1 e2 g1 g2 g3 g4
  obtain ⟨f0, f1, f2, f3, f4, f5, f6, f7, f8, f9, f10, f11⟩ := cfg_cells K3.out
  have e0 : w3.cell? ⟨pq, 0, none⟩ = some (.string t) := co_cell Y3.out rfl
  have e1 : w3.cell? ⟨pq, 1, none⟩ = some (.int .i64 K) := co_cell Y3.out rfl
  have e2 : w3.cell? ⟨pq, 2, none⟩ = some (.int .i64 N) := co_cell Y3.out rfl
  cases zq with
  | false =>
    clear hzq
    go_wp2_with fail
    refine CQ.out.mono ?_
    rintro e w4 ⟨rfl, hb4⟩
    have B4 := Lib.hid (B3.out.trans (hb4.mono B3.out.size))
    clear hb4
    go_wp2_with fail
    refine (FIN.out _ B4.out).mono ?_
    rintro e w9 ⟨rfl, hb9⟩
    have B9 := Lib.hid hb9
    clear hb9
    go_wp2_with fail
    go_ret
    exact ⟨rfl, B9.out⟩
  | true =>
  have HQM := Lib.hid (of_decide_eq_true hzq)
  clear hzq
  go_wp2_with fail
  refine CQ.out.mono ?_
  rintro e w4 ⟨rfl, hb4⟩
  have B4 := Lib.hid (B3.out.trans (hb4.mono B3.out.size))
  have K4 := Lib.hid (show cfgB c w4 p from (hb4.block p (Array.getElem?_eq_some_iff.1 K3.out).1).trans K3.out)
  have Y4 := Lib.hid (show qyB t K N w4 pq from (hb4.block pq (Array.getElem?_eq_some_iff.1 Y3.out).1).trans Y3.out)
  have OK4 := Lib.hid (OK.out.below B4.out)
  clear hb4 CQ K3 Y3 B3 f0 f1 f2 f3 f4 f5 f6 f7 f8 f9 f10 f11 e0 e1 e2 hp
  obtain ⟨W, hW⟩ : ∃ W : Nat, c.W = (W : Int) := ⟨c.W.toNat, by have := (may_parts HM.out).2.2.1; omega⟩
  obtain ⟨C, hC⟩ : ∃ C : Nat, c.C = (C : Int) := ⟨c.C.toNat, by have := (may_parts HM.out).2.2.2.1; omega⟩
  obtain ⟨S, hS⟩ : ∃ S : Nat, c.S = (S : Int) := ⟨c.S.toNat, by have := (may_parts HM.out).2.2.2.2.1; omega⟩
  have MP := Lib.hid (show (1 ≤ W ∧ W ≤ 5) ∧ (0 < C ∧ C ≤ 3) ∧ C ≤ W ∧ (1 ≤ S ∧ S ≤ 4) ∧ (1 ≤ c.L ∧ c.L ≤ 1000) ∧ c.kn ≤ 5 from by
    obtain ⟨-, -, a1, a2, a3, -, a4, -⟩ := may_parts HM.out
    exact ⟨by omega, by omega, by omega, by omega, a4, may_kn HM.out OK4.out⟩)
  have HW := Lib.hid hW; have HC := Lib.hid hC; have HS := Lib.hid hS
  have CN := Lib.hid (gnew_any c W C S w4 OK4.out HM.out HKA.out hW hC hS)
  have h20' : dn ≤ 20 := by omega
  have H20 := Lib.hid h20'
  clear hW hC hS h20 h20' h100
  obtain ⟨f0, f1, f2, f3, f4, f5, f6, f7, f8, f9, f10, f11⟩ := cfg_cells K4.out
  go_wp2_with fail
  refine CN.out.mono ?_
  rintro e w5 ⟨col, i, rfl, hG, hb5⟩
  obtain ⟨B0, hB0⟩ : ∃ B, w4.heap.size = B := ⟨_, rfl⟩
  rw [hB0] at hG
  rw [HW.out] at hG
  have hlo : ∀ k, k < B0 → col k = 9 := fun k hk => by
    by_cases e : col k = 9
    · exact e
    · have := hG.lo k e; omega
  have R5 := Lib.hid (fun lb (hlb : w5.heap.size = lb) => RQ.make (w := w) (ty := 59) (s := ⟨0, newS W c.L, newSl S, [], []⟩) (CoX.fresh hG fun _ => ⟨0, none, 0, none, 0, none, 0, 0, 0⟩) ((hb5.block p (Array.getElem?_eq_some_iff.1 K4.out).1).trans K4.out) (hlo p (by rw [← hB0]; exact (Array.getElem?_eq_some_iff.1 K4.out).1)) (B4.out.trans (hb5.mono B4.out.size)) (by rw [← hB0]; exact B4.out.size) (by rw [HP.out]; exact Nat.le_refl _) ((hb5.block pq (Array.getElem?_eq_some_iff.1 Y4.out).1).trans Y4.out) (hlo pq (by rw [← hB0]; exact (Array.getElem?_eq_some_iff.1 Y4.out).1)) hlb)
  clear hG hb5 hB0 hlo CN K4 Y4 B4 OK4 f0 f1 f2 f3 f4 f5 f6 f7 f8 f9 f10 f11
  go_upto_region 7 with fail
  obtain ⟨lb, hlb⟩ : ∃ b, w5.heap.size = b := ⟨_, rfl⟩
  have R6 := Lib.hid (R5.out lb hlb)
  try rw [hlb]
  show Code.wp _ _ _ _ (w5.alloc (.cells (lstA fun _ => 0) 59))
  generalize w5.alloc (.cells (lstA fun _ => 0) 59) = w6 at *
  clear R5 hlb
  go_wp2_with fail
  go_loopw [12] (fun iv wr => ∃ z : Nat, 1 ≤ z ∧ z ≤ W + 1 ∧ iv = .int .i64 z ∧ ∃ f, Hid (RQ w c W C i B0 p pq lb 59 t K N f ⟨0, newS W c.L, newSl S, [], []⟩ wr ∧ ∀ y, 1 ≤ y → y < z → f y = -1)) (fun iv _ => W + 1 - (intOf iv).toNat)
  case atStart => exact ⟨1, Nat.le_refl _, by omega, rfl, _, Lib.hid ⟨R6.out, fun y h1 h2 => by omega⟩⟩
  case round =>
    obtain ⟨z, hz1, hzW, rfl, f, hR⟩ := hrel
    clear R6
    have f2 : wr.cell? ⟨p, 2, none⟩ = some (.int .i64 (W : Int)) := by rw [← HW.out]; exact co_cell hR.out.1.cfg rfl
    have hz6 : z < 6 ∨ ¬ z ≤ W := by have := MP.out; omega
    by_cases hlt : z ≤ W
    · have gle : decide ((z : Int) ≤ (W : Int)) = true := decide_eq_true (by omega)
      have hz6' : z < 6 := by omega
      obtain ⟨kl1, kl2⟩ := hR.out.1.cell z hz6'
      have ek : IntKind.i64.wrap ((z : Int) + 1) = ((z + 1 : Nat) : Int) := by rw [IntKind.wrap_i64]; omega
      have RR := Lib.hid (show RQ w c W C i B0 p pq lb 59 t K N (fun j => if j = z then -1 else f j) ⟨0, newS W c.L, newSl S, [], []⟩ (wr.setCell ⟨lb, z, none⟩ (.int .i64 (-1))) ∧ ∀ y, 1 ≤ y → y < z + 1 → (if y = z then (-1 : Int) else f y) = -1 from ⟨hR.out.1.set z hz6' (-1), fun y h1 h2 => by
        by_cases e : y = z
        · rw [if_pos e]
        · rw [if_neg e]; exact hR.out.2 y h1 (by omega)⟩)
      go_wp2_with fail
      go_roundw
      case rel => exact ⟨z + 1, by omega, by omega, by first | rfl | simp [ek], _, RR⟩
      case measure => simp [intOf]; omega
    · have gle : decide ((z : Int) ≤ (W : Int)) = false := decide_eq_false (by omega)
      have R7 := Lib.hid (show RQ w c W C i B0 p pq lb 59 t K N f ⟨0, newS W c.L, newSl S, [], []⟩ wr ∧ HeaI W S c.L f ⟨0, newS W c.L, newSl S, [], []⟩ from ⟨hR.out.1, heaI_0 MP.out.1 MP.out.2.2.2.2.1 fun y h1 h2 => hR.out.2 y h1 (by omega)⟩)
      clear hR
      go_wp2_with fail
      go_loopw [13, 14] (fun iv _ wr => ∃ ii : Nat, ii ≤ dn ∧ iv = .int .i64 ii ∧ ∃ f s, Hid (RQ w c W C i B0 p pq lb 59 t K N f s wr ∧ HeaI W S c.L f s ∧ s.now = (ii : Int))) (fun iv _ _ => dn - (intOf iv).toNat)
      case atStart => exact ⟨0, by omega, rfl, f, _, Lib.hid ⟨R7.out.1, R7.out.2, rfl⟩⟩
      case round =>
        clear R7 f2 gle hlt hz6 hzW hz1
        obtain ⟨ii, hii, rfl, f1, s, hR⟩ := hrel
        rename World => wq
        by_cases hlt : ii < dn
        · have R1 := Lib.hid hR.out.1
          have HI := Lib.hid hR.out.2.1
          have HNW := Lib.hid hR.out.2.2
          obtain ⟨dv, hdv⟩ : ∃ d, ds.getD ii 0 = d := ⟨_, rfl⟩
          obtain ⟨b, o, rfl, hdc⟩ := (show ∃ b o, da = some ⟨b, o, none⟩ ∧ wq.cell? ⟨b, o + ii, none⟩ = some (.int .i64 dv) from by
            obtain ⟨b, o, h1, h2⟩ := (HD.out.below hR.out.1.bel).at (by omega)
            exact ⟨b, o, h1, by rw [← hdv]; exact h2 ii hlt⟩)
          have f2 : wq.cell? ⟨p, 2, none⟩ = some (.int .i64 (W : Int)) := by rw [← HW.out]; exact co_cell R1.out.cfg rfl
          have ew : IntKind.i64.wrap ((W : Int) + 1) = (W : Int) + 1 := by have := MP.out; rw [IntKind.wrap_i64]; omega
          have LB := Lib.hid (show 0 ≤ lowV dv ((W : Int) + 1) ∧ lowV dv ((W : Int) + 1) < (W : Int) + 1 from low_bd dv _ (by omega))
          obtain ⟨k, hk⟩ : ∃ k : Nat, lowV dv ((W : Int) + 1) = (k : Int) := ⟨(lowV dv ((W : Int) + 1)).toNat, by have := LB.out; omega⟩
          have CL := Lib.hid (fun w' => (show Calls Tryz.prog 23 #[.int .i64 dv, .int .i64 ((W : Int) + 1)] w' fun e w'' => e = .returned (.int .i64 (k : Int)) ∧ w' = w'' from hk ▸ low_any dv ((W : Int) + 1) (by omega) (by have := MP.out; omega) w'))
          have HK := Lib.hid (show k ≤ W from by have := LB.out; rw [hk] at this; omega)
          clear hdv LB hk hR
          go_upto_region 14 with fail
          go_quiet ((go_at_call 23; exact Calls.quiet_of_same ((CL.out _).mono (fun _ _ h => ⟨h.1, h.2.symm⟩))))
          generalize hwv : wq.drewN _ = wv at *
          have hbv : Below wq.heap.size wq wv := hwv ▸ below_drewN wq _
          have R2 := Lib.hid (R1.out.below hbv)
          have ek : IntKind.i64.wrap ((ii : Int) + 1) = ((ii + 1 : Nat) : Int) := by have := H20.out; rw [IntKind.wrap_i64]; omega
          clear hwv hbv R1 hdc f2 ew CL
          rcases Nat.eq_zero_or_pos k with h0 | h0
          · subst h0
            have CT := Lib.hid (R2.out.tick (by have := HNW.out; have := H20.out; omega))
            have NX := Lib.hid (fun w' (h : RQ w c W C i B0 p pq lb 59 t K N f1 { s with now := s.now + 1 } w') => (show RQ w c W C i B0 p pq lb 59 t K N f1 { s with now := s.now + 1 } w' ∧ HeaI W S c.L f1 { s with now := s.now + 1 } ∧ s.now + 1 = ((ii + 1 : Nat) : Int) from ⟨h, HI.out.tick, by have := HNW.out; omega⟩))
            clear R2
            go_wp2_with fail
            refine CT.out.mono ?_
            rintro e w8 ⟨rfl, h8⟩
            have RR := Lib.hid (NX.out w8 h8)
            clear h8 CT NX
            go_wp2_with fail
            go_roundw
            case rel => exact ⟨ii + 1, by omega, by first | rfl | simp [ek], _, _, RR⟩
            case measure => simp [intOf]; omega
          · have gk : decide ((k : Int) > 0) = true := decide_eq_true (by omega)
            have gk2 : decide (0 < k) = true := decide_eq_true h0
            have CH := Lib.hid (R2.out.hear HI.out.g (k : Int) 1)
            clear R2
            go_wp2_with fail
            refine CH.out.mono ?_
            rintro e w6 ⟨⟨a6, n6, c6, rfl⟩, h6⟩
            have R6 := Lib.hid h6
            have CW := Lib.hid (show Calls Tryz.prog 13 #[.pointer (some ⟨i.x, 0, none⟩)] w6 fun e w' => e = .returned (.int .i64 (ii : Int)) ∧ w6 = w' from HNW.out ▸ (show Calls Tryz.prog 13 #[.pointer (some ⟨i.x, 0, none⟩)] w6 fun e w' => e = .returned (.int .i64 s.now) ∧ w6 = w' from R6.out.time))
            have hk6 : k < 6 := by have := MP.out; have := HK.out; omega
            obtain ⟨kl1, kl2⟩ := R6.out.cell k hk6
            clear h6 CH
            go_wp2_with fail
            refine CW.out.mono ?_
            rintro e w7 ⟨rfl, rfl⟩
            have R7 := Lib.hid (R6.out.set k hk6 (ii : Int))
            clear R6 CW
            go_upto_region 18 with fail
            generalize w6.setCell ⟨lb, k, none⟩ (.int .i64 (ii : Int)) = w7 at *
            have CT := Lib.hid (R7.out.tick (by have := HNW.out; have := H20.out; show s.now < 1000000; omega))
            have NX := Lib.hid (fun w' (h : RQ w c W C i B0 p pq lb 59 t K N (fun j => if j = k then (ii : Int) else f1 j) { helS s (k : Int) 1 with now := (helS s (k : Int) 1).now + 1 } w') => (show RQ w c W C i B0 p pq lb 59 t K N (fun j => if j = k then (ii : Int) else f1 j) { helS s (k : Int) 1 with now := (helS s (k : Int) 1).now + 1 } w' ∧ HeaI W S c.L (fun j => if j = k then (ii : Int) else f1 j) { helS s (k : Int) 1 with now := (helS s (k : Int) 1).now + 1 } ∧ (helS s (k : Int) 1).now + 1 = ((ii + 1 : Nat) : Int) from ⟨h, by
              have h1 := HI.out.hear k ⟨by omega, HK.out⟩ MP.out.2.2.2.2.1 (by have := HNW.out; have := H20.out; omega)
              rw [HNW.out] at h1
              exact h1.tick, by have := HNW.out; show s.now + 1 = _; omega⟩))
            clear R7 kl1 kl2
            go_wp2_with fail
            refine CT.out.mono ?_
            rintro e w8 ⟨rfl, h8⟩
            have RR := Lib.hid (NX.out w8 h8)
            clear h8 CT NX
            go_wp2_with fail
            go_roundw
            case rel => exact ⟨ii + 1, by omega, by first | rfl | simp [ek], _, _, RR⟩
            case measure => simp [intOf]; omega
        · obtain rfl : dn = ii := by omega
          have R7 := Lib.hid hR.out
          clear hR hlt
          obtain ⟨lo, hlo⟩ : ∃ k : Nat, lowV wt 30 = (k : Int) := ⟨(lowV wt 30).toNat, by have := low_bd wt 30 (by omega); omega⟩
          have hlo30 : lo < 30 := by have := low_bd wt 30 (by omega); omega
          have CL := Lib.hid (fun w' => (show Calls Tryz.prog 23 #[.int .i64 wt, .int .i64 30] w' fun e w'' => e = .returned (.int .i64 (lo : Int)) ∧ w' = w'' from hlo ▸ low_any wt 30 (by omega) (by omega) w'))
          clear hlo
          go_wp2_with fail
          go_loopw [15] (fun iv wr => ∃ k : Nat, k ≤ lo ∧ iv = .int .i64 k ∧ ∃ s, Hid (RQ w c W C i B0 p pq lb 59 t K N f1 s wr ∧ HeaI W S c.L f1 s ∧ s.now = (dn : Int) + (k : Int))) (fun iv _ => lo - (intOf iv).toNat)
          case atStart => exact ⟨0, by omega, rfl, s, Lib.hid ⟨R7.out.1, R7.out.2.1, by rw [R7.out.2.2]; simp⟩⟩
          case round =>
            clear R7
            obtain ⟨k, hk, rfl, s1, hR⟩ := hrel
            rename World => wx
            have ek : IntKind.i64.wrap ((k : Int) + 1) = ((k + 1 : Nat) : Int) := by rw [IntKind.wrap_i64]; omega
            by_cases hlt : k < lo
            · have glt : decide ((k : Int) < (lo : Int)) = true := decide_eq_true (by omega)
              have CT := Lib.hid (hR.out.1.tick (by have := hR.out.2.2; have := H20.out; omega))
              have NX := Lib.hid (fun w' (h : RQ w c W C i B0 p pq lb 59 t K N f1 { s1 with now := s1.now + 1 } w') => (show RQ w c W C i B0 p pq lb 59 t K N f1 { s1 with now := s1.now + 1 } w' ∧ HeaI W S c.L f1 { s1 with now := s1.now + 1 } ∧ s1.now + 1 = (dn : Int) + ((k + 1 : Nat) : Int) from ⟨h, hR.out.2.1.tick, by have := hR.out.2.2; omega⟩))
              clear hR
              go_wp2_with fail
              refine (CL.out _).mono ?_
              rintro e w7 ⟨rfl, rfl⟩
              go_wp2_with fail
              refine CT.out.mono ?_
              rintro e w8 ⟨rfl, h8⟩
              have RR := Lib.hid (NX.out w8 h8)
              clear h8 CT NX
              go_wp2_with fail
              go_roundw
              case rel => exact ⟨k + 1, by omega, by first | rfl | simp [ek], _, RR⟩
              case measure => simp [intOf]; omega
            · have glt : decide ((k : Int) < (lo : Int)) = false := decide_eq_false (by omega)
              have HI := Lib.hid hR.out.2.1
              have HNW := Lib.hid (show 0 ≤ s1.now ∧ s1.now ≤ 50 from by have := hR.out.2.2; have := H20.out; omega)
              have CS := Lib.hid (hR.out.1.submit MP.out.2.2.2.1 HI.out.qs HI.out.ss HQM.out HTS.out MP.out.1.2)
              have OQ := Lib.hid (oneQ (c := c) (t := t) (K := K) (N := N) HI.out.qs HI.out.ss HI.out.M MP.out.2.2.2.1.1)
              have OI := Lib.hid (adv_its (c := c) (t := t) (K := K) (N := N) HI.out.qs)
              obtain ⟨e0, e1, e2⟩ := hR.out.1.qy
              clear hR
              go_wp2_with fail
              refine (CL.out _).mono ?_
              rintro e w7 ⟨rfl, rfl⟩
              go_wp2_with fail
              with_reducible refine CS.out.mono ?_
              rintro e w8 ⟨⟨a8, n8, c8, rfl⟩, h8⟩
              have R8 := Lib.hid h8
              obtain ⟨s2, hs2⟩ : ∃ s2, advS c 0 0 (subC c t K N 0 s1) = s2 := ⟨_, rfl⟩
              rw [hs2] at R8 OQ OI
              have hn2 : s2.ss.n = S := by rw [OQ.out.n, HI.out.ss]; rfl
              have hS4 := MP.out.2.2.2.1
              have hnw : 0 ≤ s1.now ∧ s1.now ≤ 1000000 := by have := HNW.out; omega
              have CWk := Lib.hid (R8.out.wake 0 (oneQ_see OQ.out HI.out.g hnw) MP.out.2.1 (by rw [hn2]; exact HS.out) (by omega))
              have WF := Lib.hid (wake_first (W := W) (draw := 0) OQ.out HI.out.g hnw MP.out.2.1 MP.out.2.2.2.2.2 (by omega))
              have WK := Lib.hid (wake_keep (W := W) (draw := 0) OQ.out HI.out.g hnw MP.out.2.1 MP.out.2.2.2.2.2 (by omega))
              obtain ⟨r, hr⟩ : ∃ r, wakeTo c W C 0 s2 s2.ss.n = r := ⟨_, rfl⟩
              rw [hr] at CWk WF WK
              obtain ⟨lw, hlw⟩ : ∃ z, r.2.length = z := ⟨_, rfl⟩
              rw [hlw] at CWk
              have HLW := Lib.hid hlw
              have HB1 := Lib.hid (show lb < w8.heap.size from (by obtain ⟨_, _, _, h2, _⟩ := R8.out; exact (Array.getElem?_eq_some_iff.1 h2.2.2.2.2.2.1).1))
              clear h8 CS hs2 hn2 hS4 hnw hr hlw e0 e1 e2 glt hlt ek R8
              go_wp2_with fail
              with_reducible refine CWk.out.mono ?_
              rintro e w9 ⟨aa, ac, rfl, h1, h2⟩
              have R9 := Lib.hid h1
              have L9 := Lib.hid h2
              have CTo := Lib.hid (R9.out.told WK.out.1 (WK.out.2.1.trans OI.out))
              clear h1 h2 CWk
              obtain ⟨dn0, hdn0⟩ : ∃ d, (r.1.qs.getD 0 q0).dn = d := ⟨_, rfl⟩
              have HDN := Lib.hid (show (s2.qs.getD 0 q0).dn = dn0 from WK.out.2.2.1.symm.trans hdn0)
              obtain ⟨qy, hqy⟩ : ∃ q, r.1.qs.getD 0 q0 = q := ⟨_, rfl⟩
              rw [hqy] at CTo hdn0
              unfold toldC at CTo
              rw [hdn0] at CTo
              clear hdn0 hqy
              go_wp2_with fail
              with_reducible refine CTo.out.mono ?_
              rintro e wa ⟨⟨a1, c1, rfl⟩, h1, hb1⟩
              have Ra := Lib.hid h1
              have La := Lib.hid (fun h0 => (show ∃ g, aa = some ⟨g, 0, none⟩ ∧ LetR wa w8.heap.size g ac r.2 from by
                obtain ⟨g, e1, e2⟩ := L9.out h0
                exact ⟨g, e1, e2.below hb1⟩))
              clear h1 hb1 CTo R9 L9
              go_upto_region 26 with fail
              obtain ⟨tb, htb⟩ : ∃ b, wa.heap.size = b := ⟨_, rfl⟩
              have KT := Lib.hid (show (wa.alloc (.cells #[.int .i64 1, .string qy.t, .int .i64 qy.K, .int .i64 qy.N, .slice a1 qy.its.length c1, .bool dn0, .bool qy.ca] 39)).heap[tb]? = some (.cells #[.int .i64 1, .string qy.t, .int .i64 qy.K, .int .i64 qy.N, .slice a1 qy.its.length c1, .bool dn0, .bool qy.ca] 39 (0, 0)) from by rw [← htb]; exact heap_alloc_new wa _)
              have hba := below_one wa (.cells #[.int .i64 1, .string qy.t, .int .i64 qy.K, .int .i64 qy.N, .slice a1 qy.its.length c1, .bool dn0, .bool qy.ca] 39)
              have Rb := Lib.hid (Ra.out.below hba)
              have Lb := Lib.hid (fun h0 => (show ∃ g, aa = some ⟨g, 0, none⟩ ∧ LetR (wa.alloc (.cells #[.int .i64 1, .string qy.t, .int .i64 qy.K, .int .i64 qy.N, .slice a1 qy.its.length c1, .bool dn0, .bool qy.ca] 39)) w8.heap.size g ac r.2 from by
                obtain ⟨g, e1, e2⟩ := La.out h0
                exact ⟨g, e1, e2.below hba⟩))
              try rw [htb]
              show Code.wp _ _ _ _ (wa.alloc (.cells #[.int .i64 1, .string qy.t, .int .i64 qy.K, .int .i64 qy.N, .slice a1 qy.its.length c1, .bool dn0, .bool qy.ca] 39))
              generalize wa.alloc (.cells #[.int .i64 1, .string qy.t, .int .i64 qy.K, .int .i64 qy.N, .slice a1 qy.its.length c1, .bool dn0, .bool qy.ca] 39) = wb at *
              clear hba htb Ra La
              have k5 : wb.cell? ⟨tb, 5, none⟩ = some (.bool dn0) := co_cell KT.out rfl
              cases dn0 with
              | true =>
                have hlw0 : lw = 0 := by
                  rcases WF.out with ⟨-, e⟩ | ⟨e, -⟩
                  · rw [← HLW.out, e]; rfl
                  · rw [HDN.out] at e; cases e
                have Bb := Lib.hid Rb.out.bel
                clear Rb Lb KT HLW WF
                subst hlw0
                go_wp2_with fail
                refine (FIN.out _ Bb.out).mono ?_
                rintro e w4 ⟨rfl, hb4⟩
                have B4 := Lib.hid hb4
                clear hb4
                go_wp2_with fail
                go_ret
                exact ⟨rfl, B4.out⟩
              | false =>
              obtain ⟨g, hg⟩ : ∃ g, gF c t K s1 W C = g := ⟨_, rfl⟩
              have HG := Lib.hid hg
              have WL := Lib.hid (show r.2.map Prod.fst = (List.range (c.kn + 1)).flatMap g from by
                rcases WF.out with ⟨e, -⟩ | ⟨-, e⟩
                · rw [HDN.out] at e; cases e
                · rw [← hg]; exact e)
              have WN := Lib.hid (show ((List.range (c.kn + 1)).flatMap g).length = lw from by rw [← WL.out, List.length_map, HLW.out])
              have HRN := Lib.hid (show r.1.now = s1.now from WK.out.2.2.2.trans OQ.out.nw)
              clear WF HDN hg KT OI OQ WK
              go_wp2_with fail
              go_loopw [22, 23, 24, 25, 26, 27] (fun ev iv _ _ _ _ wy => ∃ n : Nat, n ≤ c.kn + 1 ∧ iv = .int .i64 n ∧ ∃ en : Nat, ev = .int .i64 en ∧ Hid (((List.range n).flatMap g).length = en ∧ RQ w c W C i B0 p pq lb 59 t K N f1 r.1 wy ∧ (0 < lw → ∃ g, aa = some ⟨g, 0, none⟩ ∧ LetR wy w8.heap.size g ac r.2))) (fun _ iv _ _ _ _ _ => c.kn + 1 - (intOf iv).toNat)
              case atStart => exact ⟨0, by omega, rfl, 0, rfl, Lib.hid ⟨rfl, Rb.out, Lb.out⟩⟩
              case round =>
                clear Rb Lb k5
                obtain ⟨n, hn, rfl, en, rfl, hR⟩ := hrel
                rename World => wy
                have RY := Lib.hid hR.out.2.1
                have LY := Lib.hid hR.out.2.2
                have HEN := Lib.hid hR.out.1
                have OKY := Lib.hid (OK.out.below RY.out.bel)
                obtain ⟨n1, hn1⟩ : ∃ n, c.kn + 1 = n := ⟨_, rfl⟩
                have HN1 := Lib.hid hn1
                have CSh := Lib.hid (show Calls Tryz.prog 24 #[.agg #[.slice c.wa c.wn c.wc, .slice c.ka c.kn c.kc, .int .i64 c.W, .int .i64 c.C, .int .i64 c.S, .int .i64 c.B, .int .i64 c.L, .int .i64 c.H, .int .i64 c.F, .int .i64 c.P, .int .i64 c.J, .int .i64 c.N]] wy fun e w' => e = .returned (.int .i64 (n1 : Int)) ∧ Below wy.heap.size wy w' from by
                  rw [← hn1]; exact shards_any c wy OKY.out HM.out)
                obtain ⟨f0, f1', f2, f3, f4, f5, f6, f7, f8, f9, f10, f11⟩ := cfg_cells RY.out.cfg
                have ek : IntKind.i64.wrap ((n : Int) + 1) = ((n + 1 : Nat) : Int) := by have := MP.out; rw [IntKind.wrap_i64]; omega
                clear hR
                by_cases hlt : n < n1
                · have glt : decide ((n : Int) < (n1 : Int)) = true := decide_eq_true (by omega)
                  go_wp2_with fail
                  refine CSh.out.mono ?_
                  rintro e w10 ⟨rfl, hb10⟩
                  have RZ := Lib.hid (RY.out.below hb10)
                  have LZ := Lib.hid (fun h0 => (show ∃ g, aa = some ⟨g, 0, none⟩ ∧ LetR w10 w8.heap.size g ac r.2 from by
                    obtain ⟨g, e1, e2⟩ := LY.out h0
                    exact ⟨g, e1, e2.below hb10⟩))
                  clear hb10 CSh RY LY OKY f0 f1' f2 f3 f4 f5 f6 f7 f8 f9 f10 f11
                  go_upto_region 32 with fail
                  obtain ⟨m, hm⟩ : ∃ m, lenS t = m := ⟨_, rfl⟩
                  have HMM := Lib.hid hm
                  have hmb : 0 ≤ m ∧ m ≤ 16 := by have h := HQM.out; unfold mayP at h; omega
                  obtain ⟨d, hd⟩ : ∃ d, leastK c.ks n m = d := ⟨_, rfl⟩
                  have HD9 := Lib.hid hd
                  have CLn := Lib.hid (fun w' => (show Calls Tryz.prog 26 #[.string t] w' fun e w'' => e = .returned (.int .i64 m) ∧ Below w'.heap.size w' w'' from hm ▸ len_any t w' HTS.out))
                  have hz := goodK_zero (may_parts HM.out).2.1
                  have CLe := Lib.hid (fun (w' : World) (hb : Below w10.heap.size w10 w') => (show Calls Tryz.prog 25 #[.slice c.ka c.kn c.kc, .int .i64 (n : Int), .int .i64 m] w' fun e w'' => e = .returned (.int .i64 d) ∧ w' = w'' from hd ▸ least_any c.ka c.kn c.kc c.ks n m w' ((OK.out.below RZ.out.bel).2.2.2.2.2.1.below hb) (by have := MP.out; omega) hz.2.1 (by omega) (by omega)))
                  have S0 := Lib.hid (show Below w10.heap.size w10 w10.drew ∧ w10.drew.cell? ⟨p, 1, none⟩ = some (.slice c.ka c.kn c.kc) ∧ w10.drew.cell? ⟨pq, 0, none⟩ = some (.string t) from ⟨(Below.refl _ _).drew, co_cell RZ.out.cfg rfl, RZ.out.qy.1⟩)
                  clear hz hm hd
                  go_region_held3 (fun w' => Below w10.heap.size w10 w' ∧ w'.cell? ⟨p, 1, none⟩ = some (.slice c.ka c.kn c.kc) ∧ w'.cell? ⟨pq, 0, none⟩ = some (.string t))
                    (first | assumption | exact S0.out | exact fr_carry (by assumption) (by assumption))
                    (first
                      | (go_at_call 26; refine (CLn.out _).mono ?_; rintro e w' ⟨rfl, hb⟩)
                      | (go_at_call 25; refine (CLe.out _ (And.left (by assumption))).mono ?_; rintro e w11 ⟨rfl, rfl⟩))
                  rename_i T11
                  rename World => w11
                  have B11 := Lib.hid (show Below w10.heap.size w10 w11 from T11.1)
                  have R11 := Lib.hid (RZ.out.below B11.out)
                  have L11 := Lib.hid (fun h0 => (show ∃ g, aa = some ⟨g, 0, none⟩ ∧ LetR w11 w8.heap.size g ac r.2 from by
                    obtain ⟨g, e1, e2⟩ := LZ.out h0
                    exact ⟨g, e1, e2.below B11.out⟩))
                  have WB := Lib.hid (show wantB c t K n = decide (0 ≤ d ∧ d ≤ K) from by unfold wantB; rw [HMM.out, HD9.out])
                  have HGN := Lib.hid (show g n = if wantB c t K n then gTo s1 W C n else [] from by rw [← HG.out]; rfl)
                  obtain ⟨e0, e1, e2⟩ := R11.out.qy
                  clear T11 S0 CLn CLe RZ LZ B11 hb
                  by_cases hd0 : d < 0
                  · have gd0 : decide (d < 0) = true := decide_eq_true hd0
                    have GN := Lib.hid (show g n = [] from by rw [HGN.out, WB.out, decide_eq_false (by omega)]; rfl)
                    have RR := Lib.hid (show ((List.range (n + 1)).flatMap g).length = en ∧ RQ w c W C i B0 p pq lb 59 t K N f1 r.1 w11 ∧ (0 < lw → ∃ g, aa = some ⟨g, 0, none⟩ ∧ LetR w11 w8.heap.size g ac r.2) from ⟨by rw [flat_succ, GN.out, List.append_nil]; exact HEN.out, R11.out, L11.out⟩)
                    go_wp2_with fail
                    go_roundw
                    case rel => exact ⟨n + 1, by omega, by first | rfl | simp [ek], en, rfl, RR⟩
                    case measure => simp [intOf]; omega
                  have gd0 : decide (d < 0) = false := decide_eq_false hd0
                  by_cases hdK : d > K
                  · have gdK : decide (d > K) = true := decide_eq_true hdK
                    have gdK2 : decide (K < d) = true := decide_eq_true hdK
                    have GN := Lib.hid (show g n = [] from by rw [HGN.out, WB.out, decide_eq_false (by omega)]; rfl)
                    have RR := Lib.hid (show ((List.range (n + 1)).flatMap g).length = en ∧ RQ w c W C i B0 p pq lb 59 t K N f1 r.1 w11 ∧ (0 < lw → ∃ g, aa = some ⟨g, 0, none⟩ ∧ LetR w11 w8.heap.size g ac r.2) from ⟨by rw [flat_succ, GN.out, List.append_nil]; exact HEN.out, R11.out, L11.out⟩)
                    go_wp2_with fail
                    go_roundw
                    case rel => exact ⟨n + 1, by omega, by first | rfl | simp [ek], en, rfl, RR⟩
                    case measure => simp [intOf]; omega
                  have gdK : decide (d > K) = false := decide_eq_false hdK
                  have gdK2 : decide (K < d) = false := decide_eq_false hdK
                  have GT := Lib.hid (show g n = gTo s1 W C n from by rw [HGN.out, WB.out, decide_eq_true (show 0 ≤ d ∧ d ≤ K from by omega)]; rfl)
                  clear WB HGN HMM HD9
                  have CC := Lib.hid (copies_in c n W C w11 (OK.out.below R11.out.bel) HM.out (by omega) HW.out HC.out)
                  unfold RetZ at CC
                  rw [Pl.cop_len] at CC
                  obtain ⟨f0, f1', f2, f3, f4, f5, f6, f7, f8, f9, f10, f11⟩ := cfg_cells R11.out.cfg
                  go_wp2_with fail
                  refine CC.out.mono ?_
                  rintro e w12 ⟨a7, c7, rfl, ho7, hb12⟩
                  obtain ⟨g7, rfl⟩ : ∃ g7, a7 = some ⟨g7, 0, none⟩ := by
                    obtain ⟨g, cap, e, -⟩ := ho7.form MP.out.2.1.1
                    injection e with e
                    exact ⟨g, e⟩
                  have R12 := Lib.hid (R11.out.below hb12)
                  have L12 := Lib.hid (fun h0 => (show ∃ g, aa = some ⟨g, 0, none⟩ ∧ LetR w12 w8.heap.size g ac r.2 from by
                    obtain ⟨g, e1, e2⟩ := L11.out h0
                    exact ⟨g, e1, e2.below hb12⟩))
                  have Z12 := Lib.hid (show ∀ j, j < C → w12.cell? ⟨g7, j, none⟩ = some (.int .i64 ((Pl.cop W C n).getD j 0)) from fun j hj => own_cells24 ho7 j (numsV_getD24 _ _ (by rw [Pl.cop_len]; exact hj)))
                  clear ho7 hb12 CC R11 L11 e0 e1 e2 f0 f1' f2 f3 f4 f5 f6 f7 f8 f9 f10 f11 gd0 gdK gdK2
                  have kz := Z12.out 0 MP.out.2.1.1
                  have hC1 : 0 < C := MP.out.2.1.1
                  obtain ⟨c0, hc0⟩ : ∃ z, (Pl.cop W C n).getD 0 0 = z := ⟨_, rfl⟩
                  rw [hc0] at kz
                  have HC0 := Lib.hid hc0
                  obtain ⟨jz, hjz⟩ : ∃ z : Int, (C : Int) - 1 = z := ⟨_, rfl⟩
                  have eC : IntKind.i64.wrap ((C : Int) - 1) = jz := by have := MP.out; rw [IntKind.wrap_i64]; omega
                  have HJZ := Lib.hid hjz
                  clear hc0 hjz
                  go_wp2_with fail
                  go_loopw [26, 27] (fun tv jv wz => ∃ jn : Nat, jn ≤ C ∧ (∃ z : Int, jv = .int .i64 z ∧ z = (jn : Int) - 1) ∧ ∃ x, tv = .int .i64 ((Pl.cop W C n).getD x 0) ∧ Hid (Below w12.heap.size w12 wz ∧ DownI (liveP s1 W C n) C jn x)) (fun _ jv _ => (intOf jv + 1).toNat)
                  case atStart => exact ⟨C, Nat.le_refl _, ⟨_, rfl, HJZ.out.symm⟩, 0, by rw [HC0.out], Lib.hid ⟨Below.refl _ _, downI_0 MP.out.2.1.1⟩⟩
                  case round =>
                    obtain ⟨jn, hjn, ⟨jv, rfl, hjv⟩, x, rfl, hB⟩ := hrel
                    clear eC HJZ
                    rename World => wz
                    have RW5 := Lib.hid (R12.out.below hB.out.1)
                    obtain ⟨j, rfl⟩ | rfl : (∃ j, jn = j + 1) ∨ jn = 0 := by
                      cases jn with
                      | zero => exact Or.inr rfl
                      | succ j => exact Or.inl ⟨j, rfl⟩
                    · obtain rfl : jv = (j : Int) := by omega
                      have hjC : j < C := by omega
                      have gge : decide ((j : Int) ≥ 0) = true := decide_eq_true (by omega)
                      have gge2 : decide (0 ≤ (j : Int)) = true := decide_eq_true (by omega)
                      obtain ⟨v, hv1, hvW, hcv, hfv, hlv, -⟩ := HI.out.liveP (sh := n) MP.out.2.2.1 (by have := MP.out; omega) j hjC
                      have kz5 : wz.cell? ⟨g7, j, none⟩ = some (.int .i64 (v : Int)) := by
                        have h := Z12.out j hjC
                        rw [hcv] at h
                        exact (hB.out.1.cell (p := ⟨g7, j, none⟩) (lt_of_cell h)).trans h
                      have hv6 : v < 6 := by have := MP.out; omega
                      obtain ⟨kl1, kl2⟩ := RW5.out.cell v hv6
                      obtain ⟨fv, hfv0⟩ : ∃ z, f1 v = z := ⟨_, rfl⟩
                      rw [hfv0] at kl1 hfv hlv
                      obtain ⟨nw, hnw⟩ : ∃ z, s1.now = z := ⟨_, rfl⟩
                      rw [hnw] at hfv hlv
                      have HN5 := Lib.hid (show 0 ≤ nw ∧ nw ≤ 50 from hnw ▸ HNW.out)
                      have k6 : wz.cell? ⟨p, 6, none⟩ = some (.int .i64 c.L) := co_cell RW5.out.cfg rfl
                      obtain ⟨lim, hlim⟩ : ∃ z, fv + c.L = z := ⟨_, rfl⟩
                      rw [hlim] at hlv
                      have el : IntKind.i64.wrap (fv + c.L) = lim := by have := MP.out; have := HN5.out; rw [IntKind.wrap_i64]; omega
                      have ej : IntKind.i64.wrap ((j : Int) - 1) = (j : Int) - 1 := by have := MP.out; rw [IntKind.wrap_i64]; omega
                      have CNw := Lib.hid (fun w' (hb : Below wz.heap.size wz w') => (show Calls Tryz.prog 13 #[.pointer (some ⟨i.x, 0, none⟩)] w' fun e w'' => e = .returned (.int .i64 nw) ∧ w' = w'' from (HRN.out.trans hnw) ▸ (show Calls Tryz.prog 13 #[.pointer (some ⟨i.x, 0, none⟩)] w' fun e w'' => e = .returned (.int .i64 r.1.now) ∧ w' = w'' from (RW5.out.below hb).time)))
                      have HLV := Lib.hid hlv
                      have HCV := Lib.hid hcv
                      clear hfv0 hnw hlim hlv hcv hjv
                      obtain ⟨b1, hb1⟩ : ∃ b, decide (fv ≥ 0) = b := ⟨_, rfl⟩
                      obtain ⟨b2, hb2⟩ : ∃ b, decide (nw ≤ lim) = b := ⟨_, rfl⟩
                      have hb1' : decide (0 ≤ fv) = b1 := hb1
                      have HP5 := Lib.hid (show liveP s1 W C n j = (b1 && b2) from by
                        rw [Bool.eq_iff_iff, HLV.out, ← hb1', ← hb2]; simp)
                      go_upto_region 39 with fail
                      cases b1 with
                      | false =>
                        go_quiet ((go_at_call 13; exact Calls.quiet_of_same ((CNw.out _ (by first | exact Below.refl _ _ | exact (Below.refl _ _).drew | exact below_drewN wz _ | assumption)).mono (fun _ _ h => ⟨h.1, h.2.symm⟩))))
                        generalize hwv : wz.drewN _ = wv at *
                        have hbv : Below wz.heap.size wz wv := hwv ▸ below_drewN wz _
                        have RR := Lib.hid (show Below w12.heap.size w12 wv ∧ DownI (liveP s1 W C n) C j x from ⟨hB.out.1.trans (hbv.mono hB.out.1.size), hB.out.2.miss HP5.out⟩)
                        clear hwv hbv kz5 k6 kl1 kl2 CNw
                        go_wp2_with fail
                        go_roundw
                        case rel => exact ⟨j, by omega, ⟨_, rfl, rfl⟩, x, rfl, RR⟩
                        case measure => simp [intOf]
                      | true =>
                        cases b2 with
                        | false =>
                          go_quiet ((go_at_call 13; exact Calls.quiet_of_same ((CNw.out _ (by first | exact Below.refl _ _ | exact (Below.refl _ _).drew | exact below_drewN wz _ | assumption)).mono (fun _ _ h => ⟨h.1, h.2.symm⟩))))
                          generalize hwv : wz.drewN _ = wv at *
                          have hbv : Below wz.heap.size wz wv := hwv ▸ below_drewN wz _
                          have RR := Lib.hid (show Below w12.heap.size w12 wv ∧ DownI (liveP s1 W C n) C j x from ⟨hB.out.1.trans (hbv.mono hB.out.1.size), hB.out.2.miss HP5.out⟩)
                          clear hwv hbv kz5 k6 kl1 kl2 CNw
                          go_wp2_with fail
                          go_roundw
                          case rel => exact ⟨j, by omega, ⟨_, rfl, rfl⟩, x, rfl, RR⟩
                          case measure => simp [intOf]
                        | true =>
                          go_quiet ((go_at_call 13; exact Calls.quiet_of_same ((CNw.out _ (by first | exact Below.refl _ _ | exact (Below.refl _ _).drew | exact below_drewN wz _ | assumption)).mono (fun _ _ h => ⟨h.1, h.2.symm⟩))))
                          generalize hwv : wz.drewN _ = wv at *
                          have hbv : Below wz.heap.size wz wv := hwv ▸ below_drewN wz _
                          have RR := Lib.hid (show Below w12.heap.size w12 wv ∧ DownI (liveP s1 W C n) C j j from ⟨hB.out.1.trans (hbv.mono hB.out.1.size), hB.out.2.hit hjC HP5.out⟩)
                          have kzv : wv.cell? ⟨g7, j, none⟩ = some (.int .i64 (v : Int)) := (hbv.cell (p := ⟨g7, j, none⟩) (lt_of_cell kz5)).trans kz5
                          clear hwv hbv kz5 k6 kl1 kl2 CNw
                          go_wp2_with fail
                          go_roundw
                          case rel => exact ⟨j, by omega, ⟨_, rfl, rfl⟩, j, by rw [HCV.out], RR⟩
                          case measure => simp [intOf]
                    · obtain rfl : jv = -1 := by omega
                      clear hjv
                      have hx := hB.out.2.done
                      obtain ⟨v, hv1, hvW, hcv, hfv, -, hev⟩ := HI.out.liveP (sh := n) MP.out.2.2.1 (by have := MP.out; omega) x hB.out.2.1
                      have HTO := Lib.hid (show toOf s1 W C n = (v : Int) from by unfold toOf firstL24; rw [hx, hcv])
                      have L5 := Lib.hid (fun h0 => (show ∃ g, aa = some ⟨g, 0, none⟩ ∧ LetR wz w8.heap.size g ac r.2 from by
                        obtain ⟨g, e1, e2⟩ := L12.out h0
                        exact ⟨g, e1, e2.below hB.out.1⟩))
                      rw [hcv] at hev
                      have hv6 : v < 6 := by have := MP.out; omega
                      obtain ⟨kl1, kl2⟩ := RW5.out.cell v hv6
                      obtain ⟨fv, hfv0⟩ : ∃ z, f1 v = z := ⟨_, rfl⟩
                      rw [hfv0] at kl1 hev
                      obtain ⟨tov, htov⟩ : ∃ z, (Pl.cop W C n).getD x 0 = z := ⟨_, rfl⟩
                      obtain rfl : tov = (v : Int) := by rw [← htov, hcv]
                      rw [htov]
                      clear hx hfv0 hfv R12 L12 hB
                      by_cases hf0 : fv < 0
                      · have gf0 : decide (fv < 0) = true := decide_eq_true hf0
                        have GN := Lib.hid (show g n = [] from by rw [GT.out]; unfold gTo; rw [HTO.out, if_pos (hev.2 hf0)])
                        clear hev hcv htov
                        have RR := Lib.hid (show ((List.range (n + 1)).flatMap g).length = en ∧ RQ w c W C i B0 p pq lb 59 t K N f1 r.1 wz ∧ (0 < lw → ∃ g, aa = some ⟨g, 0, none⟩ ∧ LetR wz w8.heap.size g ac r.2) from ⟨by rw [flat_succ, GN.out, List.append_nil]; exact HEN.out, RW5.out, L5.out⟩)
                        go_wp2_with fail
                        go_roundw
                        case rel => exact ⟨n + 1, by omega, by first | rfl | simp [ek], en, rfl, RR⟩
                        case measure => simp [intOf]; omega
                      · have gf0 : decide (fv < 0) = false := decide_eq_false hf0
                        have GV := Lib.hid (show g n = [(v : Int)] from by rw [GT.out]; unfold gTo; rw [HTO.out, if_neg (fun e => hf0 (hev.1 e))])
                        have hat := flat_at g (show n < c.kn + 1 by omega) GV.out
                        rw [← WL.out, HEN.out, List.getElem?_map] at hat
                        obtain ⟨lx, hlx, hl1⟩ := Option.map_eq_some_iff.1 hat
                        have hen : en < lw := by rw [← HLW.out]; exact (List.getElem?_eq_some_iff.1 hlx).1
                        obtain ⟨lg, rfl, hL⟩ := L5.out (by omega)
                        obtain ⟨kc0, -⟩ := hL.cells hlx
                        rw [hl1] at kc0
                        have HRL := Lib.hid (show r.2.length = lw from HLW.out)
                        have ee : IntKind.i64.wrap ((en : Int) + 1) = ((en + 1 : Nat) : Int) := by
                          have h1 : ∀ n, ((List.range n).flatMap g).length ≤ n := by
                            intro n
                            induction n with
                            | zero => exact Nat.le_refl _
                            | succ n ih =>
                              rw [flat_succ, List.length_append]
                              have : (g n).length ≤ 1 := by
                                rw [← HG.out]; unfold gF gTo; split
                                · split <;> simp
                                · simp
                              omega
                          have h2 := h1 n
                          rw [HEN.out] at h2
                          have := MP.out
                          rw [IntKind.wrap_i64]; omega
                        have gge : decide ((en : Int) ≥ (lw : Int)) = false := decide_eq_false (by omega)
                        have gge2 : decide ((lw : Int) ≤ (en : Int)) = false := decide_eq_false (by omega)
                        have gge3 : decide (lw ≤ en) = false := decide_eq_false (by omega)
                        have RR := Lib.hid (show ((List.range (n + 1)).flatMap g).length = en + 1 ∧ RQ w c W C i B0 p pq lb 59 t K N f1 r.1 wz ∧ (0 < lw → ∃ g, (some ⟨lg, 0, none⟩ : Option Addr) = some ⟨g, 0, none⟩ ∧ LetR wz w8.heap.size g ac r.2) from ⟨by rw [flat_succ, GV.out, List.length_append, HEN.out]; rfl, RW5.out, fun _ => ⟨lg, rfl, hL⟩⟩)
                        clear hat hlx hl1 hL hev hcv htov L5
                        go_wp2_with fail
                        go_roundw
                        case rel => exact ⟨n + 1, by omega, by first | rfl | simp [ek], en + 1, by first | rfl | simp [ee], RR⟩
                        case measure => simp [intOf]; omega
                · obtain rfl : n1 = n := by omega
                  have glt : decide ((n1 : Int) < (n1 : Int)) = false := decide_eq_false (by omega)
                  have hen : en = lw := by rw [← HEN.out, ← WN.out, HN1.out]
                  subst hen
                  go_wp2_with fail
                  refine CSh.out.mono ?_
                  rintro e w10 ⟨rfl, hb10⟩
                  have B10 := Lib.hid (RY.out.below hb10).bel
                  clear hb10 CSh RY LY OKY f0 f1' f2 f3 f4 f5 f6 f7 f8 f9 f10 f11
                  go_wp2_with fail
                  refine (FIN.out _ B10.out).mono ?_
                  rintro e w4 ⟨rfl, hb4⟩
                  have B4 := Lib.hid hb4
                  clear hb4
                  go_wp2_with fail
                  go_ret
                  exact ⟨rfl, B4.out⟩
open Go.ChangeShapes Go.WideShapes Go.ChangeAt in
theorem coordFirst_walk {H : Type} {enc : TypeId × Value → H} (W : World) (base : Nat) (v0 v1 v2 v3 : Value) (d0 d1 d2 d3 : DataW H) (p0 p1 p2 p3 : List MemPlace)
    (h0 : DataW.Trod enc Tryz.prog W 0 (fun _ => true) true 53 v0 d0 p0) (h1 : DataW.Trod enc Tryz.prog W 0 (fun _ => true) true 23 v1 d1 p1) (h2 : DataW.Trod enc Tryz.prog W 0 (fun _ => true) true 54 v2 d2 p2) (h3 : DataW.Trod enc Tryz.prog W 0 (fun _ => true) true 3 v3 d3 p3)
    (o0 : Value.okWide Tryz.prog W .any base 53 v0) (o1 : Value.okWide Tryz.prog W .any base 23 v1) (o2 : Value.okWide Tryz.prog W .any base 54 v2) (o3 : Value.okWide Tryz.prog W .any base 3 v3) :
    Calls Tryz.prog 4 #[v0, v1, v2, v3] W fun e w' => e = .returned (.bool true) ∧ RowKit.Below W.heap.size W w' := by
  obtain ⟨c, rfl, ok, hka⟩ := open_cfg2 o0 h0
  obtain ⟨t, K, N, ht, -, -, rfl⟩ := queryG_arg o1 h1
  obtain ⟨a, n, cap, zs, rfl, hz, -, g3, g4, -⟩ := open_ints_arg Tryz.underlying54 Tryz.underlying3 (by kernel_rfl) o2 h2
  obtain ⟨x, rfl, rfl, rfl, -⟩ := open_int Tryz.underlying3 o3 h3
  exact coordFirst_any c t K N a n cap zs x W ok hka (by omega) hz ⟨g3, g4⟩
end Go.Proofs.YtblipdmagfiigaaGreat
