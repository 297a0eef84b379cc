/- texts joined -/
import Derived.WalkKit
import Derived.ProofKit
import Derived.OpenShut
import Derived.Lib.SmallJoins
import Derived.Lib.Hide
import Derived.Deep.Slices
import Derived.OwnWalk
import Derived.Laws.AppendOwnNone
import Derived.Test.YtblipdmagfiigaaGreatChecked
import Derived.WalkLawsBesides
import Derived.Outline
import Derived.Sort.Walk0
import Derived.Laws.RangeAny
import Derived.Lib.DecodeN
import Derived.Deep.QuietTactic
import Derived.BigQuiet
import Derived.SliceStrings
import Derived.Deep.RegionWith
import Derived.Deep.DeepCutAuto
import Derived.Deep.RegionHeld3
import Derived.Lib.OthersKept
import Derived.Maps.OwnSet
import Derived.WalkArith
import Derived.BigRegion
import Derived.Deep.AppendLies
import Derived.Deep.RegionLaw
import Derived.Laws.OwnMore
import Derived.Lib.SliceRun
import Derived.Sort.Grow
import Derived.Laws.AppendOwn
import Derived.Carry
import Derived.Maps.AppendAt
import Derived.WalkSpells
import Derived.StillTailTactics
import Derived.Laws.BitsAllLaws
import Derived.Lib.AppendStr
import Derived.Lib.Strings
import Derived.Lib.ConvBytes
import Derived.Laws.DeepBits32
import Derived.Laws.BytesArg
import Derived.Lib.SlBytesRow
import Derived.Test.YtblipdmagfiigaaGreatPkYD
namespace Go.Proofs.YtblipdmagfiigaaGreat
open Go.RowKit
set_option linter.unusedVariables false
set_option maxRecDepth 20000
/-- the merge's one shard -/
def y24 (wa : Option Addr) (wc : Nat) : SM := ⟨0, false, 0, false, k0, wa, 0, wc, []⟩
theorem tell24_f (wa : Option Addr) (wc : Nat) : tellF 2 2 [] ([y24 wa wc].map spl) [] = ([], [y24 none 0], []) := by rfl
theorem done24 (wa : Option Addr) (wc : Nat) : doneB 2 [] [y24 wa wc] = false := by rfl
theorem spl24 {L : List SM} (h : L.map spl = [y24 none 0]) : ∃ wa wc, L = [y24 wa wc] := by
  match L, h with
  | [⟨a, b, c, d, e, wa, wn, wc, wt⟩], h =>
    simp only [List.map_cons, List.map_nil, List.cons.injEq, and_true, spl, y24, SM.mk.injEq] at h
    obtain ⟨rfl, rfl, rfl, rfl, rfl, -, rfl, -, rfl⟩ := h
    exact ⟨wa, wc, rfl⟩
def Tell24 (w : World) (bm : Nat) (Sm : Nat → Prop) (e : Ending) (w' : World) : Prop := ∃ oa oc wa wc S', e = .returned (.slice oa 0 oc) ∧ MAt w' bm 2 [] [y24 wa wc] S' ∧ w'.ownsRow w.heap.size 71 2 (.slice oa 0 oc) 0 [] ∧ (∀ k, S' k → Sm k ∨ w.heap.size ≤ k) ∧ Turn Sm w w'
theorem tell24 (w : World) (bm : Nat) (wa : Option Addr) (wc : Nat) (Sm : Nat → Prop) (h : MAt w bm 2 [] [y24 wa wc] Sm) : Calls Tryz.prog 59 #[.pointer (some ⟨bm, 0, none⟩)] w (Tell24 w bm Sm) := by
  have hT := mtell_any 2 bm w h (show 1 ≤ 1000 by decide) (by decide) (by decide) (by decide)
  rw [tell24_f] at hT
  refine hT.mono ?_
  rintro e w' ⟨oa, oc, L, S', rfl, hin, hL⟩
  obtain ⟨wa', wc', rfl⟩ := spl24 hL
  exact ⟨oa, oc, wa', wc', S', rfl, hin.m, hin.o, hin.s, hin.t⟩
/-- the query's cells -/
def quC (ia : Option Addr) (ic bm sb : Nat) : Array Value := #[.int .i64 1, .string coA, .int .i64 1, .int .i64 2, .slice ia 0 ic, .bool false, .bool false, .pointer (some ⟨bm, 0, none⟩), .slice (some ⟨sb, 0, none⟩) 1 1]
def qmap (qb : Nat) : Int → Option Value := fun k => if k = 1 then some (.pointer (some ⟨qb, 0, none⟩)) else none
/-- what else there is stays, and keeps its colour -/
def Ext (w : World) (col : Nat → Nat) (w' : World) (col' : Nat → Nat) : Prop := Turn (fun k => col k ≤ 7) w w' ∧ ∀ k, k < w.heap.size → col' k = col k
theorem Ext.refl (w : World) (col : Nat → Nat) : Ext w col w col := ⟨Turn.refl _ _, fun _ _ => rfl⟩
theorem Ext.turn {w w' w'' : World} {col col' : Nat → Nat} {F : Nat → Prop} (h : Ext w col w' col') (t : Turn F w' w'') (hF : ∀ k, F k → col' k ≤ 7) : Ext w col w'' col' :=
  ⟨h.1.trans' t fun k hk => by
    rcases Nat.lt_or_ge k w.heap.size with e | e
    · exact Or.inl (by rw [← h.2 k e]; exact hF k hk)
    · exact Or.inr e, h.2⟩
theorem Ext.below {w w' w'' : World} {col col' : Nat → Nat} (h : Ext w col w' col') (hb : Below w'.heap.size w' w'') : Ext w col w'' col' := h.turn (F := fun _ => False) (Turn.of_below hb) fun k e => e.elim
theorem Ext.paint {w w' v v' : World} {col col' : Nat → Nat} (c : Nat) (h : Ext w col w' col') (hv : w.heap.size ≤ v.heap.size) : Ext w col w' (newCol v v' c col') := ⟨h.1, fun k hk => by rw [newCol_old (Nat.lt_of_lt_of_le hk hv)]; exact h.2 k hk⟩
theorem Ext.trans {w w' w'' : World} {col col' col'' : Nat → Nat} (h : Ext w col w' col') (k : Ext w' col' w'' col'') : Ext w col w'' col'' :=
  ⟨(h.turn k.1 fun _ e => e).1, fun i hi => (k.2 i (Nat.lt_of_lt_of_le hi h.1.size)).trans (h.2 i hi)⟩
/-- a query under way -/
structure CoQ (w : World) (col : Nat → Nat) (qb sb bm : Nat) (ia : Option Addr) (ic : Nat) (tu tr sk : Int) (he : Bool) : Prop where
  q : w.heap[qb]? = some (.cells (quC ia ic bm sb) 96 (0, 0))
  s : w.heap[sb]? = some (.cells #[.int .i64 tu, .int .i64 tr, .int .i64 sk, .bool he] 143 (0, 0))
  m : ∃ wa wc Sm, MAt w bm 2 [] [y24 wa wc] Sm ∧ ∀ k, Sm k → col k = 7
  c : col qb = 5 ∧ col sb = 6
theorem CoQ.lts {w : World} {col : Nat → Nat} {qb sb bm : Nat} {ia : Option Addr} {ic : Nat} {tu tr sk : Int} {he : Bool} (h : CoQ w col qb sb bm ia ic tu tr sk he) : qb < w.heap.size ∧ sb < w.heap.size := ⟨(Array.getElem?_eq_some_iff.1 h.q).1, (Array.getElem?_eq_some_iff.1 h.s).1⟩
theorem CoQ.turn {w w' : World} {col : Nat → Nat} {qb sb bm : Nat} {ia : Option Addr} {ic : Nat} {tu tr sk : Int} {he : Bool} {F : Nat → Prop} (h : CoQ w col qb sb bm ia ic tu tr sk he) (t : Turn F w w') (hF : ∀ k, F k → col k < 5 ∨ 7 < col k) : CoQ w' col qb sb bm ia ic tu tr sk he := by
  refine ⟨(t.block qb h.lts.1 fun e => by have := hF _ e; have := h.c.1; omega).trans h.q, (t.block sb h.lts.2 fun e => by have := hF _ e; have := h.c.2; omega).trans h.s, ?_, h.c⟩
  obtain ⟨wa, wc, Sm, hm, hc⟩ := h.m
  exact ⟨wa, wc, Sm, hm.turn t (fun k hk e => by have := hF _ e; have := hc k hk; omega), hc⟩
theorem CoQ.below {w w' : World} {col : Nat → Nat} {qb sb bm : Nat} {ia : Option Addr} {ic : Nat} {tu tr sk : Int} {he : Bool} (h : CoQ w col qb sb bm ia ic tu tr sk he) (hb : Below w.heap.size w w') : CoQ w' col qb sb bm ia ic tu tr sk he :=
  h.turn (F := fun _ => False) (Turn.of_below hb) fun k e => e.elim
theorem CoQ.paint {w v : World} {w' : World} {c : Nat} {col : Nat → Nat} {qb sb bm : Nat} {ia : Option Addr} {ic : Nat} {tu tr sk : Int} {he : Bool} (h : CoQ w col qb sb bm ia ic tu tr sk he) (hq : qb < v.heap.size ∧ sb < v.heap.size) (hm : ∀ k, col k = 7 → k < v.heap.size) : CoQ w (newCol v w' c col) qb sb bm ia ic tu tr sk he := by
  obtain ⟨wa, wc, Sm, h1, hc⟩ := h.m
  exact ⟨h.q, h.s, ⟨wa, wc, Sm, h1, fun k hk => by rw [newCol_old (hm k (hc k hk))]; exact hc k hk⟩, ⟨(newCol_old hq.1).trans h.c.1, (newCol_old hq.2).trans h.c.2⟩⟩
variable {B0 : Nat} {col : Nat → Nat} {x ca cc cw c2 bl bs bo ba bt bq n : Nat} {ls : Lt} {ss : Sl} {M : List TM}
theorem CoS.paintNew {w w' : World} {f f' : Int → Option Value} {ls' : Lt} {ss' : Sl} {M' : List TM} {n' : Nat} (c : Nat) (h0 : CoS B0 w col x ca cc cw c2 bl bs bo ba bt bq n ls ss M f) (h : CoS B0 w' col x ca cc cw c2 bl bs bo ba bt bq n' ls' ss' M' f') (hs : w.heap.size ≤ w'.heap.size) : CoS B0 w' (newCol w w' c col) x ca cc cw c2 bl bs bo ba bt bq n' ls' ss' M' f' := by
  refine h.paint (w := w') c hs h0.hB h0.lts ?_
  obtain ⟨St, q, hc⟩ := h.T
  refine ⟨St, q, fun k hk => ?_⟩
  rw [newCol_old]
  · exact hc k hk
  · rcases Nat.lt_or_ge k w.heap.size with e | e
    · exact e
    · have := h0.nw k e; have := hc k hk; omega
theorem nil24 {w : World} {B : Nat} {e : TypeId} {a : Option Addr} {c : Nat} (h : w.ownsRow B e 2 (.slice a 0 c) 0 []) : a = none → 0 = 0 ∧ c = 0 := by
  rintro rfl
  rcases h.2 with ⟨h0, -⟩ | ⟨g, cap, cur, hv, -⟩
  · injection h0 with _ _ h0; exact ⟨rfl, h0⟩
  · injection hv with hv; cases hv
def Adv24 (B0 : Nat) (col : Nat → Nat) (x ca cc cw c2 bl bs bo ba bt bq n : Nat) (ls : Lt) (ss : Sl) (M : List TM) (qb sb bm : Nat) (tu tr sk : Int) (he : Bool) (w : World) (e : Ending) (w' : World) : Prop :=
  ∃ col' ia ic, e = .returned (.slice none 0 0) ∧ CoS B0 w' col' x ca cc cw c2 bl bs bo ba bt bq n ls ss M (qmap qb) ∧ CoQ w' col' qb sb bm ia ic tu tr sk he ∧ Ext w col w' col'
set_option maxRecDepth 100000 in
set_option maxHeartbeats 1600000 in
theorem advance24 (qb sb bm : Nat) (tu tr sk : Int) (he : Bool) (w : World) (h : CoS B0 w col x ca cc cw c2 bl bs bo ba bt bq n ls ss M (qmap qb)) (hq : CoQ w col qb sb bm none 0 tu tr sk he) : Calls Tryz.prog 34 #[.pointer (some ⟨x, 0, none⟩), .int .i64 1] w (Adv24 B0 col x ca cc cw c2 bl bs bo ba bt bq n ls ss M qb sb bm tu tr sk he w) := by
  obtain ⟨i0, hi, hz0, hz1, hz2⟩ := info_parts item_info
  have C := Lib.hid h
  have HQ := Lib.hid hq
  have x17 : w.cell? ⟨x, 17, none⟩ = some (.map (some bq)) := co_cell h.box rfl
  have wf : wfI 1 := by unfold wfI; rfl
  obtain ⟨wa, wc, Sm, hm, hc⟩ := hq.m
  have CT := Lib.hid (tell24 w.drew bm wa wc Sm (hm.below ((Below.refl _ _).drew)))
  have HC := Lib.hid hc
  clear h hq hm hc
  go_enter Tryz.func34, Tryz.ntmps34
  go_wp2_with (first | (at_lookup; refine wpList_get_mv mapTq rfl (.tmp 9) (.tmp 10) rfl rfl C.out.Q 1 rfl wf (.pointer (some ⟨qb, 0, none⟩)) rfl ?_) | fail)
  have y4 : w.cell? ⟨qb, 4, none⟩ = some (.slice none 0 0) := co_cell HQ.out.q rfl
  have y7 : w.cell? ⟨qb, 7, none⟩ = some (.pointer (some ⟨bm, 0, none⟩)) := co_cell HQ.out.q rfl
  have G := Lib.hid (show ∀ w2, Turn Sm w.drew w2 → w2.heap[qb]? = some (.cells (quC none 0 bm sb) 96 (0, 0)) from fun w2 t => (t.block qb HQ.out.lts.1 fun e => by have := HC.out _ e; have := HQ.out.c.1; omega).trans HQ.out.q)
  go_region_law
    (first
      | (go_simp; go_at_call 59; (with_reducible refine CT.out.mono ?_); rintro e w2 ⟨oa, oc, wa2, wc2, S2, rfl, hm2, ho2, hs2, ht2⟩; have g4 : w2.cell? ⟨qb, 4, none⟩ = some (.slice none 0 0) := co_cell (G.out w2 ht2) rfl; have z4 := co_fz (G.out w2 ht2) 4)
      | (refine step_append_opt (by rfl) _ _ _ (by rfl) _ 71 i0 _ 2 24 Tryz.underlying24 hi hz0 hz1 hz2 rfl (by omega) (.slice none 0 0) 0 [] (by rfl) (World.ownsRow_nil _ _ _ _) oa 0 oc [] (by rfl) (nil24 ho2) rfl (fun ad _ j u hu => by cases hu) (fun u hu => by cases hu) (by unfold maxLen; omega) (by omega) (Nat.le_refl _) ?_; intro a3 c3 w3 ho3 hb3; have g43 : w3.cell? ⟨qb, 4, none⟩ = some (.slice none 0 0) := (hb3.cell (p := ⟨qb, 4, none⟩) (lt_of_cell g4)).trans g4; have z43 : w3.frozen? ⟨qb, 4, none⟩ = false := (World.frozen?_of_block (w := w2) (hb3.block qb (lt_of_cell g4))).trans z4))
  all_goals
    have hsz : w.heap.size ≤ w2.heap.size := ht2.size
    have C2 : CoS B0 w2 col x ca cc cw c2 bl bs bo ba bt bq n ls ss M (qmap qb) := (C.out.below ((Below.refl _ _).drew)).own ht2 (fun k e => by rw [HC.out k e]; decide)
    have C2' := C.out.paintNew 7 C2 hsz
    have Q2 : CoQ w2 (newCol w w2 7 col) qb sb bm none 0 tu tr sk he := ⟨G.out w2 ht2, (ht2.block sb HQ.out.lts.2 fun e => by have := HC.out _ e; have := HQ.out.c.2; omega).trans HQ.out.s, ⟨wa2, wc2, S2, hm2, fun k hk => by
      by_cases e : w.heap.size ≤ k
      · exact newCol_new e (hm2.lt k hk)
      · rcases hs2 k hk with h1 | h1
        · rw [newCol_old (by omega)]; exact HC.out k h1
        · exact absurd h1 e⟩, ⟨(newCol_old HQ.out.lts.1).trans HQ.out.c.1, (newCol_old HQ.out.lts.2).trans HQ.out.c.2⟩⟩
    have hbE : Ext w col w2 (newCol w w2 7 col) := Ext.paint 7 (((Ext.refl w col).below ((Below.refl _ _).drew)).turn ht2 (fun k hk => by rw [HC.out k hk]; decide)) (Nat.le_refl _)
    have C3 := C2'.below hb3
    have Q3 := Q2.below hb3
    have hbF := hbE.below hb3
    have tS : Turn (fun k => k = qb) w3 (w3.setCell ⟨qb, 4, none⟩ (.slice a3 0 c3)) := Turn.setCell rfl
    have C4 := Lib.hid (C3.own tS (fun k e => by have := Q3.c.1; rw [e]; omega))
    have Q4 := Lib.hid (show CoQ (w3.setCell ⟨qb, 4, none⟩ (.slice a3 0 c3)) (newCol w w2 7 col) qb sb bm a3 c3 tu tr sk he from ⟨by rw [Go.heap_setCell_same w3 qb 4 _ _ _ Q3.q]; rfl, (tS.block sb Q3.lts.2 fun e => by have := Q3.c.1; have := Q3.c.2; rw [e] at this; omega).trans Q3.s, by
      obtain ⟨wa3, wc3, Sm3, hm3, hc3⟩ := Q3.m
      exact ⟨wa3, wc3, Sm3, hm3.turn tS (fun k hk e => by have h1 := hc3 k hk; rw [e] at h1; have := Q3.c.1; omega), hc3⟩, Q3.c⟩)
    have B4 := Lib.hid (hbF.turn tS (fun k e => by have := Q3.c.1; rw [e]; omega))
    have MD := Lib.hid Q4.out.m
    clear hsz C2 C2' Q2 hbE C3 Q3 hbF tS hm2 ho2 hs2 ht2 ho3 hb3 g4 z4 g43 z43 y4 y7
    go_upto_region 3 with fail
    generalize w3.setCell ⟨qb, 4, none⟩ (.slice a3 0 c3) = w4 at *
    have y7 : w4.cell? ⟨qb, 7, none⟩ = some (.pointer (some ⟨bm, 0, none⟩)) := co_cell Q4.out.q rfl
    obtain ⟨wa4, wc4, Sm4, hm4, hc4⟩ := MD.out
    have CD := Lib.hid (mdone_any false bm w4 hm4 (show 1 ≤ 1000 by decide) (done24 wa4 wc4))
    clear hm4 hc4
    go_wp2_with fail
    refine CD.out.mono ?_
    rintro e w5 ⟨rfl, hb5⟩
    have FIN := Lib.hid (show Adv24 B0 col x ca cc cw c2 bl bs bo ba bt bq n ls ss M qb sb bm tu tr sk he w (.returned (.slice none 0 0)) w5 from ⟨_, a3, c3, rfl, C4.out.below hb5, Q4.out.below hb5, B4.out.below hb5⟩)
    clear hb5
    go_wp2_with fail
    go_ret
    exact FIN.out
end Go.Proofs.YtblipdmagfiigaaGreat
namespace Go.Proofs.YtblipdmagfiigaaGreat
open Go.RowKit
set_option linter.unusedVariables false
set_option maxRecDepth 20000
variable {B0 : Nat} {col : Nat → Nat} {x ca cc cw c2 bl bs bo ba bt bq n : Nat} {ls : Lt} {ss : Sl} {M : List TM}
def ss0 : Sl := newSl 1
def ss1 : Sl := subS true ss0 0
theorem mayP24 : decide (mayP coA 1 2) = true := decide_eq_true (by unfold mayP; decide +kernel)
theorem ff24 : FirstFree ss0 0 := ⟨by decide, fun i h => by omega, fun _ => rfl⟩
theorem sub24 (w : World) (h : SlAt w bs bo ba ss0) : Calls Tryz.prog 31 #[.pointer (some ⟨bs, 0, none⟩), .agg #[.string coA, .int .i64 1, .int .i64 2]] w fun e w' => e = .returned (.tuple #[.int .i64 3, .int .i64 1, .int .i64 0]) ∧ SlAt w' bs bo ba ss1 ∧ Turn (slF bs bo ba) w w' :=
  submit_may bs bo ba 0 coA 1 2 w h (newSl_good (by omega) (by omega)) ff24 (by decide) (by decide) mayP24
theorem shard_info : (Tryz.prog.info? 143).map (fun i => (i.zero, i.size, i.bytes)) = some (some (.agg #[.int .i64 0, .int .i64 0, .int .i64 0, .bool false]), 4, 32) := by kernel_rfl
theorem made24 : (madeCells (Value.agg #[.int .i64 0, .int .i64 0, .int .i64 0, .bool false]).cells (1 * 4)).toList = [.int .i64 0, .int .i64 0, .int .i64 0, .bool false] := by kernel_rfl
theorem own_block24 {w : World} {B g : Nat} {e : TypeId} {a b c d : Value} (h : w.ownsRow B e 4 (.slice (some ⟨g, 0, none⟩) 1 1) 1 [a, b, c, d]) : w.heap[g]? = some (.cells #[a, b, c, d] e (0, 0)) := by
  rcases h.2 with ⟨h0, -⟩ | ⟨g', cap, cur, hv, -, hh, -, -, hs, hx⟩
  · injection h0 with h0; cases h0
  · injection hv with h1 h2 h3
    injection h1 with h1
    injection h1 with h1
    subst h1; subst h3
    rw [List.take_of_length_le (by simp; omega)] at hx
    rw [hh, show cur = #[a, b, c, d] from by cases cur; simpa using hx]
theorem sub_carry {w1 a b : World} {q : Nat} (h : Below w1.heap.size w1 a ∧ a.cell? ⟨q, 0, none⟩ = some (.string coA) ∧ a.cell? ⟨q, 1, none⟩ = some (.int .i64 1) ∧ a.cell? ⟨q, 2, none⟩ = some (.int .i64 2)) (hb : Below a.heap.size a b) : Below w1.heap.size w1 b ∧ b.cell? ⟨q, 0, none⟩ = some (.string coA) ∧ b.cell? ⟨q, 1, none⟩ = some (.int .i64 1) ∧ b.cell? ⟨q, 2, none⟩ = some (.int .i64 2) :=
  ⟨h.1.trans (hb.mono h.1.size), (hb.cell (p := ⟨q, 0, none⟩) (lt_of_cell h.2.1)).trans h.2.1, (hb.cell (p := ⟨q, 1, none⟩) (lt_of_cell h.2.2.1)).trans h.2.2.1, (hb.cell (p := ⟨q, 2, none⟩) (lt_of_cell h.2.2.2)).trans h.2.2.2⟩
def Sub24 (B0 : Nat) (col : Nat → Nat) (x ca cc cw c2 bl bs bo ba bt bq : Nat) (ls : Lt) (M : List TM) (w : World) (e : Ending) (w' : World) : Prop :=
  ∃ col' qb sb bm ia ic, e = .returned (.tuple #[.int .i64 3, .int .i64 1, .slice none 0 0]) ∧ CoS B0 w' col' x ca cc cw c2 bl bs bo ba bt bq 1 ls ss1 M (qmap qb) ∧ CoQ w' col' qb sb bm ia ic 0 0 0 false ∧ Ext w col w' col'
set_option maxRecDepth 100000 in
set_option maxHeartbeats 3200000 in
theorem submit24 (w : World) (h : CoS B0 w col x ca cc cw c2 bl bs bo ba bt bq 0 ls ss0 M (fun _ => none)) : Calls Tryz.prog 8 #[.pointer (some ⟨x, 0, none⟩), .agg #[.string coA, .int .i64 1, .int .i64 2]] w (Sub24 B0 col x ca cc cw c2 bl bs bo ba bt bq ls M w) := by
  have hb1 := below_one w (.cells #[.string coA, .int .i64 1, .int .i64 2] 23)
  obtain ⟨q, hq⟩ : ∃ q, w.heap.size = q := ⟨_, rfl⟩
  have KQ := Lib.hid (show (w.alloc (.cells #[.string coA, .int .i64 1, .int .i64 2] 23)).heap[q]? = some (.cells #[.string coA, .int .i64 1, .int .i64 2] 23 (0, 0)) from by rw [← hq]; exact heap_alloc_new w _)
  have C1 := Lib.hid (h.below hb1)
  have E1 := Lib.hid ((Ext.refl w col).below hb1)
  have HCQ := Lib.hid (show col q = 9 from h.nw q (by omega))
  clear h hb1
  go_enter Tryz.func8, Tryz.ntmps8
  go_upto_region 1 with fail
  generalize w.alloc (.cells #[.string coA, .int .i64 1, .int .i64 2] 23) = w1 at *
  go_upto_region 3 with fail
  have CD := Lib.hid (C1.out.below ((Below.refl _ _).drew))
  have CSub := Lib.hid (sub24 w1.drew CD.out.S)
  have hql : q < w1.heap.size := (Array.getElem?_eq_some_iff.1 KQ.out).1
  have HS := Lib.hid (show ∀ w', Turn (slF bs bo ba) w1.drew w' → w'.heap[q]? = some (.cells #[.string coA, .int .i64 1, .int .i64 2] 23 (0, 0)) ∧ w'.cell? ⟨x, 15, none⟩ = some (.pointer (some ⟨bs, 0, none⟩)) ∧ w'.cell? ⟨q, 0, none⟩ = some (.string coA) ∧ w'.cell? ⟨q, 1, none⟩ = some (.int .i64 1) ∧ w'.cell? ⟨q, 2, none⟩ = some (.int .i64 2) from fun w' t => by
    have k := (t.block q hql fun e => by have := C1.out.hs q e; have := HCQ.out; omega).trans (show w1.drew.heap[q]? = some (.cells #[.string coA, .int .i64 1, .int .i64 2] 23 (0, 0)) from KQ.out)
    exact ⟨k, (t.cell C1.out.lts.1 fun e => by have := C1.out.hs x e; have := C1.out.cx.1; omega).trans (co_cell C1.out.box rfl), co_cell k rfl, co_cell k rfl, co_cell k rfl⟩)
  have S0 := Lib.hid (HS.out w1.drew (Turn.refl _ _))
  go_region_held3 (fun w' => w'.heap[q]? = some (.cells #[.string coA, .int .i64 1, .int .i64 2] 23 (0, 0)) ∧ w'.cell? ⟨x, 15, none⟩ = some (.pointer (some ⟨bs, 0, none⟩)) ∧ w'.cell? ⟨q, 0, none⟩ = some (.string coA) ∧ w'.cell? ⟨q, 1, none⟩ = some (.int .i64 1) ∧ w'.cell? ⟨q, 2, none⟩ = some (.int .i64 2))
    (first | assumption | exact S0.out | exact HS.out _ (by assumption))
    (first
      | (go_at_call 31; refine CSub.out.mono ?_; rintro e w2 ⟨rfl, hS, hT⟩))
  have C2 := Lib.hid (CD.out.slots hS hT)
  have E2 := Lib.hid ((E1.out.below ((Below.refl _ _).drew)).turn hT (fun k e => by rw [C1.out.hs k e]; decide))
  have K2 := Lib.hid (HS.out w2 hT).1
  have LM := Lib.hid (fun (w' : World) (hb : Below w2.heap.size w2 w') => leasts24 w' (C2.out.below hb))
  have S2 := Lib.hid (show Below w2.heap.size w2 w2.drew ∧ w2.drew.cell? ⟨q, 0, none⟩ = some (.string coA) ∧ w2.drew.cell? ⟨q, 1, none⟩ = some (.int .i64 1) ∧ w2.drew.cell? ⟨q, 2, none⟩ = some (.int .i64 2) from ⟨(Below.refl _ _).drew, co_cell K2.out rfl, co_cell K2.out rfl, co_cell K2.out rfl⟩)
  clear hS hT HS S0 CSub CD
  go_upto_region 6 with fail
  go_region_held3 (fun w' => Below w2.heap.size w2 w' ∧ w'.cell? ⟨q, 0, none⟩ = some (.string coA) ∧ w'.cell? ⟨q, 1, none⟩ = some (.int .i64 1) ∧ w'.cell? ⟨q, 2, none⟩ = some (.int .i64 2))
    (first | assumption | exact S2.out | exact sub_carry (by assumption) (by assumption))
    (first
      | (go_at_call 33; refine (LM.out _ (And.left (by assumption))).mono ?_; rintro e w3 ⟨a4, c4, rfl, hA, hb3⟩)
      | (go_at_call 32; refine (mnew_any a4 1 c4 [0] 2 _ hA (by omega) (by omega)).mono ?_; rintro e w4 ⟨bm, Sm, rfl, hM, hMge, hb4⟩))
  rename_i T4
  have hb24 : Below w2.heap.size w2 w4 := T4.1
  obtain ⟨-, q0, q1, q2⟩ := T4
  have hb23 : Below w2.heap.size w2 w3 := ((Below.refl w2.heap.size w2).drew).trans hb3
  have C3 := C2.out.below hb23
  have C4 := C2.out.below hb24
  have C4' := C3.paintNew 7 C4 hb4.size
  have E4' := Ext.paint (v := w3) (v' := w4) 7 (E2.out.below hb24) (Nat.le_trans E2.out.1.size hb23.size)
  have M4 : ∀ k, Sm k → newCol w3 w4 7 col k = 7 := fun k hk => newCol_new (hMge k hk) (hM.lt k hk)
  obtain ⟨cl4, hcl4⟩ : ∃ c, newCol w3 w4 7 col = c := ⟨_, rfl⟩
  rw [hcl4] at C4' E4' M4
  obtain ⟨i1, hi1, hy0, hy1, hy2⟩ := info_parts shard_info
  obtain ⟨w5, hrun, hown5, hgrow5⟩ := run_make_full (P := Tryz.prog) w4.drew w4.heap.size 94 143 i1 (.agg #[.int .i64 0, .int .i64 0, .int .i64 0, .bool false]) 4 Tryz.underlying94 hi1 hy0 hy1 .i64 .i64 1 (by rw [hy2]; omega) (by unfold maxLen; omega) (Nat.le_refl _)
  have hrun2 : (Instr.makeSlice 94 (.int .i64 1) (.int .i64 1)).run Tryz.prog w4.drew = .ok (.slice (some ⟨w4.heap.size, 0, none⟩) 1 1) w5 := hrun
  rw [made24] at hown5
  have hsb := own_block24 hown5
  have hb45 : Below w4.heap.size w4 w5 := (Below.refl w4.heap.size w4).drew.trans ((below_grown hgrow5 (by intro k hk; cases hk)))
  obtain ⟨sb, hsbe⟩ : ∃ b, w4.heap.size = b := ⟨_, rfl⟩
  rw [show w4.drew.heap.size = sb from hsbe] at hsb
  rw [hsbe] at hrun2
  have C5 := C4'.below hb45
  have C5' := C4'.paintNew 6 C5 hb45.size
  have hsl : sb < w5.heap.size := (Array.getElem?_eq_some_iff.1 hsb).1
  have hs6 : newCol w4 w5 6 cl4 sb = 6 := newCol_new (by omega) hsl
  have M5 : ∀ k, Sm k → newCol w4 w5 6 cl4 k = 7 := fun k hk => (newCol_old (hM.lt k hk)).trans (M4 k hk)
  have E5 := Ext.paint (v := w4) (v' := w5) 6 (E4'.below hb45) E4'.1.size
  obtain ⟨cl5, hcl5⟩ : ∃ c, newCol w4 w5 6 cl4 = c := ⟨_, rfl⟩
  rw [hcl5] at C5' hs6 M5 E5
  have hM5 := hM.below hb45
  have hb56 := below_one w5 (.cells (quC none 0 bm sb) 96)
  have C6 := C5'.below hb56
  have C6' := C5'.paintNew 5 C6 hb56.size
  obtain ⟨qb, hqb⟩ : ∃ b, w5.heap.size = b := ⟨_, rfl⟩
  have K6 : (w5.alloc (.cells (quC none 0 bm sb) 96)).heap[qb]? = some (.cells (quC none 0 bm sb) 96 (0, 0)) := by rw [← hqb]; exact heap_alloc_new w5 _
  have Q6 := Lib.hid (show CoQ (w5.alloc (.cells (quC none 0 bm sb) 96)) (newCol w5 (w5.alloc (.cells (quC none 0 bm sb) 96)) 5 cl5) qb sb bm none 0 0 0 0 false from
    ⟨K6, (hb56.block sb hsl).trans hsb, ⟨none, 0, Sm, hM5.below hb56, fun k hk => (newCol_old (hM5.lt k hk)).trans (M5 k hk)⟩, ⟨newCol_new (by omega) (Array.getElem?_eq_some_iff.1 K6).1, (newCol_old hsl).trans hs6⟩⟩)
  have E6 := Lib.hid (Ext.paint (v := w5) (v' := w5.alloc (.cells (quC none 0 bm sb) 96)) 5 (E5.below hb56) E5.1.size)
  have CC6 := Lib.hid C6'
  have x12 : w4.cell? ⟨x, 12, none⟩ = some (.slice (some ⟨ca, 0, none⟩) 1 cc) := co_cell C4.box rfl
  have x17 : w4.cell? ⟨x, 17, none⟩ = some (.map (some bq)) := co_cell C4.box rfl
  have x17' : w5.cell? ⟨x, 17, none⟩ = some (.map (some bq)) := co_cell C5.box rfl
  have x17'' : (w5.alloc (.cells #[.int .i64 1, .string coA, .int .i64 1, .int .i64 2, .slice none 0 0, .bool false, .bool false, .pointer (some ⟨bm, 0, none⟩), .slice (some ⟨sb, 0, none⟩) 1 1] 96)).cell? ⟨x, 17, none⟩ = some (.map (some bq)) := co_cell C6.box rfl
  have p0 : w5.cell? ⟨q, 0, none⟩ = some (.string coA) := (hb45.cell (p := ⟨q, 0, none⟩) (lt_of_cell q0)).trans q0
  have p1 : w5.cell? ⟨q, 1, none⟩ = some (.int .i64 1) := (hb45.cell (p := ⟨q, 1, none⟩) (lt_of_cell q1)).trans q1
  have p2 : w5.cell? ⟨q, 2, none⟩ = some (.int .i64 2) := (hb45.cell (p := ⟨q, 2, none⟩) (lt_of_cell q2)).trans q2
  have wf : wfI 1 := by unfold wfI; rfl
  have MQ := Lib.hid C6.Q
  clear C3 C4 C4' E4' M4 hrun hown5 hgrow5 hsb C5 C5' hsl hs6 M5 E5 hM5 hb56 C6 C6' K6 hb23 hb24 hb45 hM hMge hA hb3 hb4 hcl4 hcl5 hql
  clear LM S2 C2 E2 C1 E1 KQ K2 HCQ
  go_upto_region 7 with fail
  obtain ⟨w7, hput, m7, t7⟩ := MapV.put_run mapTq MQ.out (by unfold maxLen; omega) 1 (.pointer (some ⟨qb, 0, none⟩)) wf
  have hput2 : (Instr.mapUpdate 85 (.map (some bq)) (.int .i64 1) (.pointer (some ⟨qb, 0, none⟩))).run Tryz.prog (w5.alloc (.cells #[.int .i64 1, .string coA, .int .i64 1, .int .i64 2, .slice none 0 0, .bool false, .bool false, .pointer (some ⟨bm, 0, none⟩), .slice (some ⟨sb, 0, none⟩) 1 1] 96)) = .ok () w7 := hput
  clear hput
  go_region_law (fail)
  all_goals
    have t7' : Turn (fun k => k = bq) (w5.alloc (.cells (quC none 0 bm sb) 96)) w7 := TurnV.of_mapTurned t7 rfl
    have m7' : MapV w7 bq 1 (qmap qb) := by
      have h : vset (fun _ => none) 1 (some (.pointer (some ⟨qb, 0, none⟩))) = qmap qb := by funext k; rfl
      rw [← h]; exact m7
    have C7 := Lib.hid (CC6.out.queries m7' t7')
    have Q7 := Q6.out.turn t7' (fun k e => by have := CC6.out.cq; rw [e]; omega)
    have E7 := Lib.hid (E6.out.turn t7' (fun k e => by have := CC6.out.cq; rw [e]; omega))
    have CA := Lib.hid (advance24 qb sb bm 0 0 0 false w7 C7.out Q7)
    clear m7 t7 t7' m7' Q7 MQ x12 x17 x17' x17'' p0 p1 p2 q0 q1 q2 hrun2 hput2 wf
    go_wp2_with fail
    refine CA.out.mono ?_
    rintro e w8 ⟨col', ia, ic, rfl, h1, h2, h3⟩
    have FIN := Lib.hid (show Sub24 B0 col x ca cc cw c2 bl bs bo ba bt bq ls M w (.returned (.tuple #[.int .i64 3, .int .i64 1, .slice none 0 0])) w8 from ⟨col', qb, sb, bm, ia, ic, rfl, h1, h2, E7.out.trans h3⟩)
    clear h1 h2 h3
    go_wp2_with fail
    exact bodyPost_ret (v := .tuple #[.int .i64 3, .int .i64 1, .slice none 0 0]) (by simp [results, go_sem]) rfl FIN.out
end Go.Proofs.YtblipdmagfiigaaGreat
namespace Go.Proofs.YtblipdmagfiigaaGreat
open Go.RowKit
set_option linter.unusedVariables false
set_option maxRecDepth 20000
variable {B0 : Nat} {col : Nat → Nat} {x ca cc cw c2 bl bs bo ba bt bq n : Nat} {ss : Sl} {M : List TM} {f : Int → Option Value}
theorem ls1_good : GoodL ls1 := hello_good ls0_good 1 1 0
theorem ls1_live : decide (liveOk ls1 1 0) = true := by decide +kernel
theorem ls1_ep : epochS ls1 1 = 1 := by decide +kernel
theorem liv_carry {w1 a b : World} {B x bl : Nat} (h : Below w1.heap.size w1 a ∧ a.cell? ⟨B, 0, none⟩ = some (.pointer (some ⟨x, 0, none⟩)) ∧ a.cell? ⟨x, 13, none⟩ = some (.int .i64 0) ∧ a.cell? ⟨x, 14, none⟩ = some (.pointer (some ⟨bl, 0, none⟩))) (hb : Below a.heap.size a b) : Below w1.heap.size w1 b ∧ b.cell? ⟨B, 0, none⟩ = some (.pointer (some ⟨x, 0, none⟩)) ∧ b.cell? ⟨x, 13, none⟩ = some (.int .i64 0) ∧ b.cell? ⟨x, 14, none⟩ = some (.pointer (some ⟨bl, 0, none⟩)) :=
  ⟨h.1.trans (hb.mono h.1.size), (hb.cell (p := ⟨B, 0, none⟩) (lt_of_cell h.2.1)).trans h.2.1, (hb.cell (p := ⟨x, 13, none⟩) (lt_of_cell h.2.2.1)).trans h.2.2.1, (hb.cell (p := ⟨x, 14, none⟩) (lt_of_cell h.2.2.2)).trans h.2.2.2⟩
theorem liveC24 (B : Nat) (w : World) (h : CoS B0 w col x ca cc cw c2 bl bs bo ba bt bq n ls1 ss M f) (hB : w.cell? ⟨B, 0, none⟩ = some (.pointer (some ⟨x, 0, none⟩))) : Calls Tryz.prog 96 #[.int .i64 1, .pointer (some ⟨B, 0, none⟩)] w fun e w' => e = .returned (.bool true) ∧ Below w.heap.size w w' := by
  have CL := Lib.hid (fun w' (hb : Below w.heap.size w w') => live_any bl 1 0 w' (h.below hb).L ls1_good)
  rw [ls1_live] at CL
  have S0 := Lib.hid (show Below w.heap.size w w.drew ∧ w.drew.cell? ⟨B, 0, none⟩ = some (.pointer (some ⟨x, 0, none⟩)) ∧ w.drew.cell? ⟨x, 13, none⟩ = some (.int .i64 0) ∧ w.drew.cell? ⟨x, 14, none⟩ = some (.pointer (some ⟨bl, 0, none⟩)) from ⟨(Below.refl _ _).drew, hB, co_cell h.box rfl, co_cell h.box rfl⟩)
  clear h hB
  go_enter Tryz.func96, Tryz.ntmps96
  go_upto_region 1 with fail
  go_region_held3 (fun w' => Below w.heap.size w w' ∧ w'.cell? ⟨B, 0, none⟩ = some (.pointer (some ⟨x, 0, none⟩)) ∧ w'.cell? ⟨x, 13, none⟩ = some (.int .i64 0) ∧ w'.cell? ⟨x, 14, none⟩ = some (.pointer (some ⟨bl, 0, none⟩)))
    (first | assumption | exact S0.out | exact liv_carry (by assumption) (by assumption))
    (first
      | (go_at_call 97; refine (CL.out _ (And.left (by assumption))).mono ?_; rintro e w2 ⟨rfl, hb2⟩))
  rename_i T5
  have hb := T5.1
  clear T5
  go_wp2_with fail
  go_ret
  exact ⟨rfl, hb⟩
theorem idx24 (B : Nat) (w : World) (h : CoS B0 w col x ca cc cw c2 bl bs bo ba bt bq n ls1 ss M f) (hB : w.cell? ⟨B, 0, none⟩ = some (.pointer (some ⟨x, 0, none⟩))) : Calls Tryz.prog 95 #[.slice (some ⟨cw, 0, none⟩) 1 c2, .func (.func 96) #[] #[.pointer (some ⟨B, 0, none⟩)]] w fun e w' => e = .returned (.int .i64 0) ∧ Below w.heap.size w w' := by
  have CL := Lib.hid (liveC24 B w h hB)
  have k := h.wk
  clear h hB
  go_enter Tryz.func95, Tryz.ntmps95
  go_wp2_with fail
  go_loopw [8] (fun iv wr => iv = .int .i64 0 ∧ wr = w) (fun _ _ => 0)
  case atStart => exact ⟨rfl, rfl⟩
  case round =>
    obtain ⟨rfl, rfl⟩ := hrel
    go_wp2_with fail
    refine CL.out.mono ?_
    rintro e w2 ⟨rfl, hb2⟩
    go_wp2_with fail
    go_ret
    exact ⟨rfl, hb2⟩
theorem firstLive24 (w : World) (h : CoS B0 w col x ca cc cw c2 bl bs bo ba bt bq n ls1 ss M f) : Calls Tryz.prog 69 #[.pointer (some ⟨x, 0, none⟩), .int .i64 0] w fun e w' => e = .returned (.int .i64 0) ∧ Below w.heap.size w w' := by
  have hb1 := below_one w (.cells #[.pointer (some ⟨x, 0, none⟩)] 31)
  have C1 := h.below hb1
  obtain ⟨B, hB⟩ : ∃ B, w.heap.size = B := ⟨_, rfl⟩
  have kB : (w.alloc (.cells #[.pointer (some ⟨x, 0, none⟩)] 31)).cell? ⟨B, 0, none⟩ = some (.pointer (some ⟨x, 0, none⟩)) := by rw [← hB, cell_alloc rfl]; rfl
  have CI := Lib.hid (idx24 B _ C1 kB)
  have x12 : (w.alloc (.cells #[.pointer (some ⟨x, 0, none⟩)] 31)).cell? ⟨x, 12, none⟩ = some (.slice (some ⟨ca, 0, none⟩) 1 cc) := co_cell C1.box rfl
  have r0 := C1.row
  have BB := Lib.hid hb1
  clear h hb1 C1
  go_enter Tryz.func69, Tryz.ntmps69
  go_wp2_with fail
  refine CI.out.mono ?_
  rintro e w2 ⟨rfl, hb2⟩
  go_wp2_with fail
  go_ret
  exact ⟨rfl, BB.out.trans (hb2.mono BB.out.size)⟩
end Go.Proofs.YtblipdmagfiigaaGreat
namespace Go.Proofs.YtblipdmagfiigaaGreat
open Go.RowKit
set_option linter.unusedVariables false
set_option maxRecDepth 20000
variable {B0 : Nat} {col : Nat → Nat} {x ca cc cw c2 bl bs bo ba bt bq n : Nat} {ss : Sl} {M : List TM}
def askV : Value := .agg #[.int .i64 0, .int .i64 1, .int .i64 0, .int .i64 0, .int .i64 1, .string coA, .int .i64 1, .int .i64 2, .bool true, .int .i64 0, .string { data := #[] }]
def Ask24 (w : World) (e : Ending) (w' : World) : Prop := ∃ p, e = .returned (.slice (some ⟨p, 0, none⟩) 1 1) ∧ One24 w' 1 73 askV p ∧ w.heap.size ≤ p ∧ Below w.heap.size w w'
theorem ask_carry24 {w1 a b : World} {qb x bm p : Nat} (h : Below w1.heap.size w1 a ∧ a.cell? ⟨qb, 7, none⟩ = some (.pointer (some ⟨bm, 0, none⟩)) ∧ a.cell? ⟨qb, 1, none⟩ = some (.string coA) ∧ a.cell? ⟨qb, 2, none⟩ = some (.int .i64 1) ∧ a.cell? ⟨x, 5, none⟩ = some (.int .i64 2) ∧ a.cell? ⟨p, 0, none⟩ = some (.int .i64 0) ∧ a.cell? ⟨p, 1, none⟩ = some (.string { data := #[] })) (hb : Below a.heap.size a b) : Below w1.heap.size w1 b ∧ b.cell? ⟨qb, 7, none⟩ = some (.pointer (some ⟨bm, 0, none⟩)) ∧ b.cell? ⟨qb, 1, none⟩ = some (.string coA) ∧ b.cell? ⟨qb, 2, none⟩ = some (.int .i64 1) ∧ b.cell? ⟨x, 5, none⟩ = some (.int .i64 2) ∧ b.cell? ⟨p, 0, none⟩ = some (.int .i64 0) ∧ b.cell? ⟨p, 1, none⟩ = some (.string { data := #[] }) := by
  obtain ⟨h0, h1, h2, h3, h4, h5, h6⟩ := h
  exact ⟨h0.trans (hb.mono h0.size), (hb.cell (p := ⟨qb, 7, none⟩) (lt_of_cell h1)).trans h1, (hb.cell (p := ⟨qb, 1, none⟩) (lt_of_cell h2)).trans h2, (hb.cell (p := ⟨qb, 2, none⟩) (lt_of_cell h3)).trans h3, (hb.cell (p := ⟨x, 5, none⟩) (lt_of_cell h4)).trans h4, (hb.cell (p := ⟨p, 0, none⟩) (lt_of_cell h5)).trans h5, (hb.cell (p := ⟨p, 1, none⟩) (lt_of_cell h6)).trans h6⟩
set_option maxRecDepth 100000 in
set_option maxHeartbeats 1600000 in
theorem ask24 (qb sb bm : Nat) (ia : Option Addr) (ic : Nat) (tu tr sk : Int) (he : Bool) (w : World) (h : CoS B0 w col x ca cc cw c2 bl bs bo ba bt bq n ls1 ss M (qmap qb)) (hq : CoQ w col qb sb bm ia ic tu tr sk he) : Calls Tryz.prog 71 #[.pointer (some ⟨x, 0, none⟩), .int .i64 0, .int .i64 1, .int .i64 0, .int .i64 0] w (Ask24 w) := by
  have C := Lib.hid h
  have Q := Lib.hid hq
  obtain ⟨wa, wc, Sm, hm, -⟩ := hq.m
  have CE := Lib.hid (fun w' (hb : Below w.heap.size w w') => (show Calls Tryz.prog 45 #[.pointer (some ⟨bl, 0, none⟩), .int .i64 1] w' fun e w'' => e = .returned (.int .i64 1) ∧ w' = w'' from ls1_ep ▸ epoch_any bl 1 w' (h.below hb).L ls1_good))
  have CA := Lib.hid (fun w' (hb : Below w.heap.size w w') => (show Calls Tryz.prog 98 #[.pointer (some ⟨bm, 0, none⟩), .int .i64 0] w' fun e w'' => e = .returned (.tuple #[.agg #[.int .i64 0, .string { data := #[] }], .bool false]) ∧ Below w'.heap.size w' w'' from mafter_any24 0 k0 false bm w' (hm.below hb) (show 1 ≤ 1000 by decide) rfl))
  have CS := Lib.hid (fun w' (hb : Below w.heap.size w w') => (show Calls Tryz.prog 99 #[.pointer (some ⟨bm, 0, none⟩), .int .i64 0] w' fun e w'' => e = .returned (.int .i64 0) ∧ w' = w'' from mseq_any 0 0 bm w' (hm.below hb) (show 1 ≤ 1000 by decide) rfl))
  have x12 : w.cell? ⟨x, 12, none⟩ = some (.slice (some ⟨ca, 0, none⟩) 1 cc) := co_cell h.box rfl
  have r0 := h.row
  have k0' := h.wk
  have wf : wfI 1 := by unfold wfI; rfl
  clear h hq hm
  go_enter Tryz.func71, Tryz.ntmps71
  go_upto_region 1 with fail
  go_quiet (fail)
  go_upto_region 2 with fail
  generalize hw1 : w.drewN _ = w1 at *
  have B1 := Lib.hid (show Below w.heap.size w w1 from hw1 ▸ below_drewN w _)
  clear hw1 x12 r0 k0'
  have x14 : w1.cell? ⟨x, 14, none⟩ = some (.pointer (some ⟨bl, 0, none⟩)) := co_cell (C.out.below B1.out).box rfl
  have x17 : w1.cell? ⟨x, 17, none⟩ = some (.map (some bq)) := co_cell (C.out.below B1.out).box rfl
  have q7 : w1.cell? ⟨qb, 7, none⟩ = some (.pointer (some ⟨bm, 0, none⟩)) := co_cell (Q.out.below B1.out).q rfl
  go_wp2_with fail
  refine (CE.out _ B1.out).mono ?_
  rintro e w2 ⟨rfl, rfl⟩
  have MQ := Lib.hid (C.out.below B1.out).Q
  go_wp2_with (first | (at_lookup; refine wpList_get_mv mapTq rfl (.tmp 46) (.tmp 47) rfl rfl MQ.out 1 rfl wf (.pointer (some ⟨qb, 0, none⟩)) rfl ?_) | fail)
  refine (CA.out _ B1.out).mono ?_
  rintro e w3 ⟨rfl, hb3⟩
  have hbp := below_one w3 (.cells #[.int .i64 0, .string { data := #[] }] 71)
  have B4 := Lib.hid ((B1.out.trans (hb3.mono B1.out.size)).trans (hbp.mono (B1.out.trans (hb3.mono B1.out.size)).size))
  obtain ⟨p, hp⟩ : ∃ p, w3.heap.size = p := ⟨_, rfl⟩
  have KP := Lib.hid (show (w3.alloc (.cells #[.int .i64 0, .string { data := #[] }] 71)).heap[p]? = some (.cells #[.int .i64 0, .string { data := #[] }] 71 (0, 0)) from by rw [← hp]; exact heap_alloc_new w3 _)
  go_upto_region 7 with fail
  generalize w3.alloc (.cells #[.int .i64 0, .string { data := #[] }] 71) = w4 at *
  clear hbp hb3 x14 x17 q7 MQ
  have C4 := C.out.below B4.out
  have Q4 := Q.out.below B4.out
  have S0 := Lib.hid (show Below w.heap.size w w4.drew ∧ w4.drew.cell? ⟨qb, 7, none⟩ = some (.pointer (some ⟨bm, 0, none⟩)) ∧ w4.drew.cell? ⟨qb, 1, none⟩ = some (.string coA) ∧ w4.drew.cell? ⟨qb, 2, none⟩ = some (.int .i64 1) ∧ w4.drew.cell? ⟨x, 5, none⟩ = some (.int .i64 2) ∧ w4.drew.cell? ⟨p, 0, none⟩ = some (.int .i64 0) ∧ w4.drew.cell? ⟨p, 1, none⟩ = some (.string { data := #[] }) from ⟨B4.out.drew, co_cell Q4.q rfl, co_cell Q4.q rfl, co_cell Q4.q rfl, co_cell C4.box rfl, co_cell KP.out rfl, co_cell KP.out rfl⟩)
  clear C4 Q4
  go_region_held3 (fun w' => Below w.heap.size w w' ∧ w'.cell? ⟨qb, 7, none⟩ = some (.pointer (some ⟨bm, 0, none⟩)) ∧ w'.cell? ⟨qb, 1, none⟩ = some (.string coA) ∧ w'.cell? ⟨qb, 2, none⟩ = some (.int .i64 1) ∧ w'.cell? ⟨x, 5, none⟩ = some (.int .i64 2) ∧ w'.cell? ⟨p, 0, none⟩ = some (.int .i64 0) ∧ w'.cell? ⟨p, 1, none⟩ = some (.string { data := #[] }))
    (first | assumption | exact S0.out | exact ask_carry24 (by assumption) (by assumption) | exact ask_carry24 (by assumption) (below_one _ _))
    (first
      | (go_at_call 99; refine (CS.out _ (And.left (by assumption))).mono ?_; rintro e w5 ⟨rfl, rfl⟩))
  have hb5 := below_one w4 (.cells #[.int .i64 1, .iface 73 askV] 68)
  have FIN := Lib.hid (show Ask24 w (.returned (.slice (some ⟨w4.heap.size, 0, none⟩) 1 1)) (w4.alloc (.cells #[.int .i64 1, .iface 73 askV] 68)).drew from
    ⟨w4.heap.size, rfl, ⟨(cell_alloc (w := w4) rfl).trans rfl, (cell_alloc (w := w4) rfl).trans rfl⟩, B4.out.size, (B4.out.trans (hb5.mono B4.out.size)).drew⟩)
  clear hb5
  go_wp2_with fail
  go_ret
  exact FIN.out
end Go.Proofs.YtblipdmagfiigaaGreat
namespace Go.Proofs.YtblipdmagfiigaaGreat
open Go.RowKit
set_option linter.unusedVariables false
set_option maxRecDepth 20000
variable {B0 : Nat} {col : Nat → Nat} {x ca cc cw c2 bl bs bo ba bt bq n : Nat} {ss : Sl}
theorem timerOf24 (w : World) : Calls Tryz.prog 62 #[.int .i64 0, .int .i64 0] w fun e w' => e = .returned (.int .i64 0) ∧ w = w' := by
  go_enter Tryz.func62, Tryz.ntmps62
  go_wp2_with fail
  go_ret
  exact ⟨rfl, rfl⟩
def M1 : List TM := [⟨0, 2⟩]
theorem set24_m : setM 24 [] 0 2 = M1 := by decide +kernel
theorem set24_v : setV 24 [] 0 2 = 0 := by decide +kernel
theorem wait24 : waitV 2 4 0 0 0 = 2 := by decide +kernel
def See24 (B0 : Nat) (col : Nat → Nat) (x ca cc cw c2 bl bs bo ba bt bq n : Nat) (ss : Sl) (qb : Nat) (w : World) (e : Ending) (w' : World) : Prop :=
  ∃ p col', e = .returned (.slice (some ⟨p, 0, none⟩) 1 1) ∧ One24 w' 1 73 askV p ∧ col' p = 9 ∧ CoS B0 w' col' x ca cc cw c2 bl bs bo ba bt bq n ls1 ss M1 (qmap qb) ∧ Ext w col w' col'
theorem at_carry {w1 a b : World} {x bt : Nat} (h : Below w1.heap.size w1 a ∧ a.cell? ⟨x, 16, none⟩ = some (.pointer (some ⟨bt, 0, none⟩))) (hb : Below a.heap.size a b) : Below w1.heap.size w1 b ∧ b.cell? ⟨x, 16, none⟩ = some (.pointer (some ⟨bt, 0, none⟩)) :=
  ⟨h.1.trans (hb.mono h.1.size), (hb.cell (p := ⟨x, 16, none⟩) (lt_of_cell h.2)).trans h.2⟩
set_option maxRecDepth 100000 in
set_option maxHeartbeats 3200000 in
theorem see24 (qb sb bm : Nat) (ia : Option Addr) (ic : Nat) (w : World) (h : CoS B0 w col x ca cc cw c2 bl bs bo ba bt bq n ls1 ss [] (qmap qb)) (hq : CoQ w col qb sb bm ia ic 0 0 0 false) : Calls Tryz.prog 42 #[.pointer (some ⟨x, 0, none⟩), .int .i64 0, .int .i64 1, .int .i64 0, .int .i64 0] w (See24 B0 col x ca cc cw c2 bl bs bo ba bt bq n ss qb w) := by
  have C := Lib.hid h
  have Q := Lib.hid hq
  obtain ⟨St, ht, hc⟩ := h.T
  have HC := Lib.hid hc
  have TW := Lib.hid ht
  have CT := Lib.hid (fun w' (hb : Below w.heap.size w w') => (show Calls Tryz.prog 68 #[.pointer (some ⟨bt, 0, none⟩), .int .i64 0] w' fun e w'' => e = .returned (.tuple #[.int .i64 0, .bool false]) ∧ Below w'.heap.size w' w'' from (tAt_any bt 24 [] 0 St w' ((tq_ok _ _ _).below ht hb)).mono (by
    rintro e w'' ⟨v, c, rfl, hat, hb2⟩
    rcases hat with ⟨y, hy, -⟩ | ⟨-, rfl, rfl⟩
    · cases hy
    · exact ⟨rfl, hb2⟩)))
  have x17 : w.cell? ⟨x, 17, none⟩ = some (.map (some bq)) := co_cell h.box rfl
  have q8 : w.cell? ⟨qb, 8, none⟩ = some (.slice (some ⟨sb, 0, none⟩) 1 1) := co_cell hq.q rfl
  have wf : wfI 1 := by unfold wfI; rfl
  have S0 := Lib.hid (show Below w.heap.size w w.drew ∧ w.drew.cell? ⟨x, 16, none⟩ = some (.pointer (some ⟨bt, 0, none⟩)) from ⟨(Below.refl _ _).drew, co_cell h.box rfl⟩)
  clear h hq ht hc
  go_enter Tryz.func42, Tryz.ntmps42
  go_upto_region 2 with (first | (at_lookup; refine wpList_get_mv mapTq rfl (.tmp 17) (.tmp 18) rfl rfl C.out.Q 1 rfl wf (.pointer (some ⟨qb, 0, none⟩)) rfl ?_) | fail)
  go_region_held3 (fun w' => Below w.heap.size w w' ∧ w'.cell? ⟨x, 16, none⟩ = some (.pointer (some ⟨bt, 0, none⟩)))
    (first | assumption | exact S0.out | exact at_carry (by assumption) (by assumption))
    (first
      | (go_at_call 62; refine (timerOf24 _).mono ?_; rintro e w2 ⟨rfl, rfl⟩)
      | (go_at_call 68; refine (CT.out _ (And.left (by assumption))).mono ?_; rintro e w3 ⟨rfl, hb3⟩))
  rename_i T5
  have B3 := Lib.hid (show Below w.heap.size w w3 from T5.1)
  clear T5 hb3 x17 q8 S0 CT
  go_upto_region 5 with fail
  have C3 := Lib.hid (C.out.below B3.out)
  have Q3 := Lib.hid (Q.out.below B3.out)
  have CF := Lib.hid (firstLive24 w3.drew (C3.out.below ((Below.refl _ _).drew)))
  have x13 : w3.cell? ⟨x, 13, none⟩ = some (.int .i64 0) := co_cell C3.out.box rfl
  have G := Lib.hid (fun (w4 : World) (hb : Below w3.drew.heap.size w3.drew w4) => (Q3.out.below ((Below.refl w3.heap.size w3).drew.trans hb)).s)
  have GX := Lib.hid (fun (w4 : World) (hb : Below w3.drew.heap.size w3.drew w4) => (C3.out.below ((Below.refl w3.heap.size w3).drew.trans hb)).box)
  go_region_law
    (first
      | (go_simp; go_at_call 69; (with_reducible refine CF.out.mono ?_); rintro e w4 ⟨rfl, hb4⟩; have s0 : w4.cell? ⟨sb, 0, none⟩ = some (.int .i64 0) := co_cell (G.out w4 hb4) rfl; have s1 : w4.cell? ⟨sb, 1, none⟩ = some (.int .i64 0) := co_cell (G.out w4 hb4) rfl; have s2 : w4.cell? ⟨sb, 2, none⟩ = some (.int .i64 0) := co_cell (G.out w4 hb4) rfl; have s3 : w4.cell? ⟨sb, 3, none⟩ = some (.bool false) := co_cell (G.out w4 hb4) rfl; have z0 := fun i => co_fz (G.out w4 hb4) i; have x13' : w4.cell? ⟨x, 13, none⟩ = some (.int .i64 0) := co_cell (GX.out w4 hb4) rfl))
  all_goals
    have hb34 : Below w3.heap.size w3 w4 := (Below.refl w3.heap.size w3).drew.trans hb4
    have C4 := C3.out.below hb34
    have Q4 := Q3.out.below hb34
    have tS : Turn (fun k => k = sb) w4 ((((w4.setCell ⟨sb, 0, none⟩ (.int .i64 0)).setCell ⟨sb, 1, none⟩ (.int .i64 0)).setCell ⟨sb, 2, none⟩ (.int .i64 0)).setCell ⟨sb, 3, none⟩ (.bool false)) := (((Turn.setCell (F := fun k => k = sb) rfl).trans (Turn.setCell (F := fun k => k = sb) rfl)).trans (Turn.setCell (F := fun k => k = sb) rfl)).trans (Turn.setCell (F := fun k => k = sb) rfl)
    have h5 := Go.heap_setCell_same _ sb 3 _ _ (.bool false) (Go.heap_setCell_same _ sb 2 _ _ (.int .i64 0) (Go.heap_setCell_same _ sb 1 _ _ (.int .i64 0) (Go.heap_setCell_same w4 sb 0 _ _ (.int .i64 0) Q4.s)))
    have C5 := Lib.hid (C4.own tS (fun k e => by have := Q4.c.2; rw [e]; omega))
    have Q5 := Lib.hid (show CoQ ((((w4.setCell ⟨sb, 0, none⟩ (.int .i64 0)).setCell ⟨sb, 1, none⟩ (.int .i64 0)).setCell ⟨sb, 2, none⟩ (.int .i64 0)).setCell ⟨sb, 3, none⟩ (.bool false)) col qb sb bm ia ic 0 0 0 false from ⟨(tS.block qb Q4.lts.1 fun e => by have h1 := Q4.c.1; have h2 := Q4.c.2; rw [e] at h1; omega).trans Q4.q, h5.trans (by rfl), by
      obtain ⟨wa3, wc3, Sm3, hm3, hc3⟩ := Q4.m
      exact ⟨wa3, wc3, Sm3, hm3.turn tS (fun k hk e => by have h1 := hc3 k hk; rw [e] at h1; have := Q4.c.2; omega), hc3⟩, Q4.c⟩)
    have E5 := Lib.hid ((((Ext.refl w col).below B3.out).below hb34).turn tS (fun k e => by have := Q4.c.2; rw [e]; omega))
    have T5 := Lib.hid ((tq_ok _ _ _).turn ((tq_ok _ _ _).below ((tq_ok _ _ _).below TW.out B3.out) hb34) tS (fun k hk e => by have h1 := HC.out k hk; rw [e] at h1; have := Q4.c.2; omega))
    clear hb34 C4 Q4 tS h5 s0 s1 s2 s3 z0 x13 x13' hb4
    go_upto_region 12 with fail
    generalize (((w4.setCell ⟨sb, 0, none⟩ (.int .i64 0)).setCell ⟨sb, 1, none⟩ (.int .i64 0)).setCell ⟨sb, 2, none⟩ (.int .i64 0)).setCell ⟨sb, 3, none⟩ (.bool false) = w5 at *
    have HS := Lib.hid (fun (w' : World) (hx : CoBox w' x (some ⟨ca, 0, none⟩) 1 cc (some bl) (some bs) (some bt) bq) (hs : w'.heap[sb]? = some (.cells #[.int .i64 0, .int .i64 0, .int .i64 0, .bool false] 143 (0, 0))) => (show w'.cell? ⟨x, 16, none⟩ = some (.pointer (some ⟨bt, 0, none⟩)) ∧ w'.cell? ⟨x, 13, none⟩ = some (.int .i64 0) ∧ w'.cell? ⟨x, 0, none⟩ = some (.slice none 0 0) ∧ w'.cell? ⟨x, 1, none⟩ = some (.slice none 0 0) ∧ w'.cell? ⟨x, 2, none⟩ = some (.int .i64 1) ∧ w'.cell? ⟨x, 3, none⟩ = some (.int .i64 1) ∧ w'.cell? ⟨x, 4, none⟩ = some (.int .i64 1) ∧ w'.cell? ⟨x, 5, none⟩ = some (.int .i64 2) ∧ w'.cell? ⟨x, 6, none⟩ = some (.int .i64 5) ∧ w'.cell? ⟨x, 7, none⟩ = some (.int .i64 9) ∧ w'.cell? ⟨x, 8, none⟩ = some (.int .i64 2) ∧ w'.cell? ⟨x, 9, none⟩ = some (.int .i64 4) ∧ w'.cell? ⟨x, 10, none⟩ = some (.int .i64 0) ∧ w'.cell? ⟨x, 11, none⟩ = some (.int .i64 8) ∧ w'.cell? ⟨sb, 1, none⟩ = some (.int .i64 0) from ⟨co_cell hx rfl, co_cell hx rfl, co_cell hx rfl, co_cell hx rfl, co_cell hx rfl, co_cell hx rfl, co_cell hx rfl, co_cell hx rfl, co_cell hx rfl, co_cell hx rfl, co_cell hx rfl, co_cell hx rfl, co_cell hx rfl, co_cell hx rfl, co_cell hs rfl⟩))
    have S0 := Lib.hid (HS.out w5.drew C5.out.box Q5.out.s)
    have CW := Lib.hid (fun w' => (show Calls Tryz.prog 73 #[.agg #[.slice none 0 0, .slice none 0 0, .int .i64 1, .int .i64 1, .int .i64 1, .int .i64 2, .int .i64 5, .int .i64 9, .int .i64 2, .int .i64 4, .int .i64 0, .int .i64 8], .int .i64 0, .int .i64 0] w' fun e w'' => e = .returned (.int .i64 2) ∧ Below w'.heap.size w' w'' from wait24 ▸ wait_any _ _ _ _ _ _ _ _ _ 2 4 0 0 0 w'))
    have CSet := Lib.hid (fun w' (h : TQ bt 24 [] w' St) => (show Calls Tryz.prog 72 #[.pointer (some ⟨bt, 0, none⟩), .int .i64 0, .int .i64 2] w' fun e w'' => e = .returned (.int .i64 0) ∧ PO (TQ bt 24 M1) w' St w'' from by
      have hh := tSet_any bt 24 [] 0 2 St w' h (by decide)
      rw [set24_m, set24_v] at hh
      exact hh))
    go_region_held3 (fun w' => w'.cell? ⟨x, 16, none⟩ = some (.pointer (some ⟨bt, 0, none⟩)) ∧ w'.cell? ⟨x, 13, none⟩ = some (.int .i64 0) ∧ w'.cell? ⟨x, 0, none⟩ = some (.slice none 0 0) ∧ w'.cell? ⟨x, 1, none⟩ = some (.slice none 0 0) ∧ w'.cell? ⟨x, 2, none⟩ = some (.int .i64 1) ∧ w'.cell? ⟨x, 3, none⟩ = some (.int .i64 1) ∧ w'.cell? ⟨x, 4, none⟩ = some (.int .i64 1) ∧ w'.cell? ⟨x, 5, none⟩ = some (.int .i64 2) ∧ w'.cell? ⟨x, 6, none⟩ = some (.int .i64 5) ∧ w'.cell? ⟨x, 7, none⟩ = some (.int .i64 9) ∧ w'.cell? ⟨x, 8, none⟩ = some (.int .i64 2) ∧ w'.cell? ⟨x, 9, none⟩ = some (.int .i64 4) ∧ w'.cell? ⟨x, 10, none⟩ = some (.int .i64 0) ∧ w'.cell? ⟨x, 11, none⟩ = some (.int .i64 8) ∧ w'.cell? ⟨sb, 1, none⟩ = some (.int .i64 0))
      (first | assumption | exact S0.out)
      (first
        | (go_at_call 62; refine (timerOf24 _).mono ?_; rintro e w2 ⟨rfl, rfl⟩)
        | (go_at_call 73; refine (CW.out _).mono ?_; rintro e w6 ⟨rfl, hb6⟩; have hb56 : Below w5.heap.size w5 w6 := (Below.refl w5.heap.size w5).drew.trans hb6; have S6 := HS.out w6 (C5.out.below hb56).box (Q5.out.below hb56).s)
        | (go_at_call 72; refine (CSet.out _ ((tq_ok _ _ _).below T5.out hb56)).mono ?_; rintro e w7 ⟨rfl, hP⟩; have S7 := HS.out w7 (((C5.out.below hb56).timers HC.out hP).box) ((Q5.out.below hb56).turn hP.turn (fun k hk => by have := HC.out k hk; omega)).s))
    have C6 := C5.out.below hb56
    have C7 := Lib.hid (C6.timers HC.out hP)
    have Q6 := Q5.out.below hb56
    have Q7 := Lib.hid ((Q6.turn hP.turn (fun k hk => by have := HC.out k hk; omega)).paint (v := w6) (w' := w7) (c := 3) Q6.lts (fun k hk => by
      rcases Nat.lt_or_ge k w6.heap.size with h | h
      · exact h
      · have := C6.nw k h; omega))
    have E7 := Lib.hid (Ext.paint (v := w6) (v' := w7) 3 ((E5.out.below hb56).turn hP.turn (fun k hk => by rw [HC.out k hk]; decide)) (Nat.le_trans E5.out.1.size hb56.size))
    have s0 : w7.cell? ⟨sb, 0, none⟩ = some (.int .i64 0) := co_cell Q7.out.s rfl
    have CA := Lib.hid (ask24 qb sb bm ia ic 0 0 0 false w7 C7.out Q7.out)
    clear C6 Q6 hb56 hP S6 S7 hb6 S0 CSet CW HS
    go_wp2_with fail
    refine CA.out.mono ?_
    rintro e w8 ⟨p, rfl, hone, hp, hb8⟩
    have FIN := Lib.hid (show See24 B0 col x ca cc cw c2 bl bs bo ba bt bq n ss qb w (.returned (.slice (some ⟨p, 0, none⟩) 1 1)) w8 from ⟨p, _, rfl, hone, C7.out.nw p hp, C7.out.below hb8, E7.out.below hb8⟩)
    clear hone hp hb8
    go_wp2_with fail
    go_ret
    exact FIN.out
end Go.Proofs.YtblipdmagfiigaaGreat
namespace Go.Proofs.YtblipdmagfiigaaGreat
open Go.RowKit
set_option linter.unusedVariables false
set_option maxRecDepth 20000
variable {B0 : Nat} {col : Nat → Nat} {x ca cc cw c2 bl bs bo ba bt bq n : Nat}
theorem letter_info24 : (Tryz.prog.info? 68).map (fun i => (i.zero, i.size, i.bytes)) = some (some (.agg #[.int .i64 0, .nilIface]), 2, 24) := by kernel_rfl
theorem own_letter24 {w : World} {B c : Nat} {e : TypeId} {a : Option Addr} {u v : Value} (h : w.ownsRow B e 2 (.slice a 1 c) 1 [u, v]) : ∃ g, a = some ⟨g, 0, none⟩ ∧ B ≤ g ∧ w.cell? ⟨g, 0, none⟩ = some u ∧ w.cell? ⟨g, 1, none⟩ = some v := by
  rcases h.2 with ⟨h0, h1⟩ | ⟨g, cap, cur, hv, hg, hh, _, _, hs, hx⟩
  · cases h1
  · injection hv with hv _ _
    have h3 : ∀ i, i < 2 → cur[i]? = ([u, v] : List Value)[i]? := fun i hi => by
      have h4 : (cur.toList.take (1 * 2))[i]? = ([u, v] : List Value)[i]? := by rw [hx]
      rw [List.getElem?_take_of_lt (by omega)] at h4
      rw [← h4, Array.getElem?_toList]
    exact ⟨g, hv, hg, by rw [Lib.cell_of_heap hh]; exact h3 0 (by omega), by rw [Lib.cell_of_heap hh]; exact h3 1 (by omega)⟩
theorem two_at24 {w : World} {p : Nat} {t : TypeId} {v : Value} (h : One24 w 1 t v p) : ∀ ad, (some ⟨p, 0, none⟩ : Option Addr) = some ad → ∀ j u, ([.int .i64 1, .iface t v] : List Value)[j]? = some u → w.cell? (ad.add j) = some u := by
  intro ad e j u hu
  injection e with e
  subst e
  match j, hu with
  | 0, hu => injection hu with hu; subst hu; exact h.1
  | 1, hu => injection hu with hu; subst hu; exact h.2
  | j + 2, hu => simp at hu
theorem two_one24 (t : TypeId) (v : Value) : ∀ u ∈ ([.int .i64 1, .iface t v] : List Value), u.oneCell' = true := by
  intro u hu
  simp only [List.mem_cons, List.not_mem_nil, or_false] at hu
  rcases hu with rfl | rfl <;> rfl
def Wake24 (B0 : Nat) (col : Nat → Nat) (x ca cc cw c2 bl bs bo ba bt bq n : Nat) (qb : Nat) (w : World) (e : Ending) (w' : World) : Prop :=
  ∃ g c col', e = .returned (.slice (some ⟨g, 0, none⟩) 1 c) ∧ One24 w' 1 73 askV g ∧ CoS B0 w' col' x ca cc cw c2 bl bs bo ba bt bq n ls1 ss1 M1 (qmap qb) ∧ Ext w col w' col'
set_option maxRecDepth 100000 in
set_option maxHeartbeats 3200000 in
theorem wake24 (qb sb bm : Nat) (ia : Option Addr) (ic : Nat) (w : World) (h : CoS B0 w col x ca cc cw c2 bl bs bo ba bt bq n ls1 ss1 [] (qmap qb)) (hq : CoQ w col qb sb bm ia ic 0 0 0 false) : Calls Tryz.prog 15 #[.pointer (some ⟨x, 0, none⟩), .int .i64 0] w (Wake24 B0 col x ca cc cw c2 bl bs bo ba bt bq n qb w) := by
  obtain ⟨i0, hi, hz0, hz1, hz2⟩ := info_parts letter_info24
  have C := Lib.hid h
  have Q := Lib.hid hq
  obtain ⟨wa, wc, Sm, hm, -⟩ := hq.m
  have CAt := Lib.hid (show Calls Tryz.prog 40 #[.pointer (some ⟨bs, 0, none⟩), .int .i64 0] w fun e w' => e = .returned (.tuple #[.int .i64 1, .bool true]) ∧ w = w' from at_any bs bo ba 0 w h.S rfl)
  have CWa := Lib.hid (show Calls Tryz.prog 41 #[.pointer (some ⟨bm, 0, none⟩)] w (RetZ w [0]) from mwants_any bm w hm (show 1 ≤ 1000 by decide))
  have x4 : w.cell? ⟨x, 4, none⟩ = some (.int .i64 1) := co_cell h.box rfl
  have x15 : w.cell? ⟨x, 15, none⟩ = some (.pointer (some ⟨bs, 0, none⟩)) := co_cell h.box rfl
  have x17 : w.cell? ⟨x, 17, none⟩ = some (.map (some bq)) := co_cell h.box rfl
  have q7 : w.cell? ⟨qb, 7, none⟩ = some (.pointer (some ⟨bm, 0, none⟩)) := co_cell hq.q rfl
  have wf : wfI 1 := by unfold wfI; rfl
  clear h hq hm
  go_enter Tryz.func15, Tryz.ntmps15
  go_wp2_with fail
  go_loopw [5, 18] (fun ov iv wr => (iv = .int .i64 0 ∧ ov = .slice none 0 0 ∧ wr = w) ∨ (iv = .int .i64 1 ∧ ∃ g c, ov = .slice (some ⟨g, 0, none⟩) 1 c ∧ Hid (Wake24 B0 col x ca cc cw c2 bl bs bo ba bt bq n qb w (.returned (.slice (some ⟨g, 0, none⟩) 1 c)) wr))) (fun _ iv _ => 1 - (intOf iv).toNat)
  case atStart => exact Or.inl ⟨rfl, rfl, rfl⟩
  case round =>
    rcases hrel with ⟨rfl, rfl, hw⟩ | ⟨rfl, g, c, rfl, hA⟩
    · subst hw
      go_wp2_with fail
      refine CAt.out.mono ?_
      rintro e w2 ⟨rfl, rfl⟩
      go_wp2_with (first | (at_lookup; refine wpList_get_mv mapTq rfl (.tmp 35) (.tmp 36) rfl rfl C.out.Q 1 rfl wf (.pointer (some ⟨qb, 0, none⟩)) rfl ?_) | fail)
      refine CWa.out.mono ?_
      rintro e w3 ⟨a3, c3, rfl, ho3, hb3⟩
      obtain ⟨g3, rfl, -, k3⟩ := own_cell24 ho3
      have B3 := Lib.hid hb3
      clear ho3 hb3 CAt CWa x4 x15 x17 q7
      go_wp2_with fail
      go_loopw [5, 43] (fun ov iv wx => (iv = .int .i64 0 ∧ ov = .slice none 0 0 ∧ wx = w3) ∨ (iv = .int .i64 1 ∧ ∃ g c, ov = .slice (some ⟨g, 0, none⟩) 1 c ∧ Hid (Wake24 B0 col x ca cc cw c2 bl bs bo ba bt bq n qb wr (.returned (.slice (some ⟨g, 0, none⟩) 1 c)) wx))) (fun _ iv _ => 1 - (intOf iv).toNat)
      case atStart => exact Or.inl ⟨rfl, rfl, rfl⟩
      case round =>
        rcases hrel with ⟨rfl, rfl, hw⟩ | ⟨rfl, g, c, rfl, hA⟩
        · subst hw
          rename World => wx
          have CSee := Lib.hid (see24 qb sb bm ia ic wx (C.out.below B3.out) (Q.out.below B3.out))
          go_wp2_with fail
          refine CSee.out.mono ?_
          rintro e w4 ⟨p, col', rfl, hone, hp, hC4, hE4⟩
          have C4 := Lib.hid hC4
          have E4 := Lib.hid (((Ext.refl wr col).below B3.out).trans hE4)
          have O4 := Lib.hid hone
          clear hone hp hC4 hE4 CSee
          go_wp2_with (at_builtin; refine wpList_append_any rfl (.tmp 47) (.tmp 53) 32 rfl w4.heap.size 68 i0 _ 2 24 Tryz.underlying32 hi hz0 hz1 hz2 rfl (by decide) _ 0 [] rfl (World.ownsRow_nil _ _ _ _) _ 1 1 [.int .i64 1, .iface 73 askV] rfl (some_none _) rfl (two_at24 O4.out) (two_one24 _ _) (by unfold maxLen; omega) (by omega) (Nat.le_refl _) ?_; intro a5 c5 w5 hown5 hb5 hnil5)
          obtain ⟨g5, rfl, hg5, k50, k51⟩ := own_letter24 hown5
          have FIN := Lib.hid (show Wake24 B0 col x ca cc cw c2 bl bs bo ba bt bq n qb wr (.returned (.slice (some ⟨g5, 0, none⟩) 1 c5)) w5 from ⟨g5, c5, col', rfl, ⟨k50, k51⟩, C4.out.below hb5, E4.out.below hb5⟩)
          clear hown5 hb5 hnil5 hg5 k50 k51
          go_wp2_with fail
          go_roundw
          case rel => exact Or.inr ⟨rfl, g5, c5, rfl, FIN⟩
          case measure => simp [intOf]
        · go_wp2_with fail
          go_roundw
          case rel => exact Or.inr ⟨rfl, g, c, rfl, hA⟩
          case measure => simp [intOf]
    · go_wp2_with fail
      go_ret
      exact hA.out
end Go.Proofs.YtblipdmagfiigaaGreat
namespace Go.Proofs.YtblipdmagfiigaaGreat
open Go.ChangeShapes Go.WideShapes Go.ChangeAt Go.RowKit
set_option linter.unusedVariables false
set_option maxRecDepth 20000
/-- The slice at a of n bytes holds the bytes bs. -/
def HoldsB (w : World) (a : Option Addr) (n : Nat) (bs : List Nat) : Prop := HoldsI .u8 w a n (bs.map fun b : Nat => (b : Int)) ∧ ∀ b ∈ bs, b < 256
end Go.Proofs.YtblipdmagfiigaaGreat
namespace Go.Proofs.YtblipdmagfiigaaGreat
namespace Cod
/-- the size lowest bytes of v, the most significant one first -/
def bytesOf (v : Nat) : Nat → List Nat
  | 0 => []
  | s + 1 => v / 256 ^ s % 256 :: bytesOf v s
end Cod
end Go.Proofs.YtblipdmagfiigaaGreat
namespace Go.Proofs.YtblipdmagfiigaaGreat
open Go.RowKit
set_option linter.unusedVariables false
set_option maxRecDepth 20000
/-- a number's 64 bits -/
def bitsV (n : Int) : Nat := (IntKind.u64.wrap n).toNat
end Go.Proofs.YtblipdmagfiigaaGreat
namespace Go.Proofs.YtblipdmagfiigaaGreat
open Go.RowKit
set_option linter.unusedVariables false
set_option maxRecDepth 20000
/-- bytes that a slice holds, whoever made them, since w0 -/
structure BB (w0 : World) (bs : List Nat) (a : Option Addr) (c : Nat) (w : World) : Prop where
  h : HoldsB w a bs.length bs
  n : a = none → bs.length = 0 ∧ c = 0
  b : Below w0.heap.size w0 w
def n4 (v : Int) : List Nat := Cod.bytesOf (bitsV v) 4
def n1 (v : Int) : List Nat := Cod.bytesOf (bitsV v) 1
end Go.Proofs.YtblipdmagfiigaaGreat
namespace Go.Proofs.YtblipdmagfiigaaGreat
open Go.RowKit
set_option linter.unusedVariables false
set_option maxRecDepth 20000
/-- how far a reader is, and whether something was missing -/
structure RS where
  k : Nat
  bad : Bool
end Go.Proofs.YtblipdmagfiigaaGreat
namespace Go.Proofs.YtblipdmagfiigaaGreat
open Go.RowKit
set_option linter.unusedVariables false
set_option maxRecDepth 20000
theorem ssM (x : ByteArray) : (x.toList == x.toList) = true := by simp
theorem askM_alike (x : AskP) (w : World) : (Op.equalIn 10000 73 (.agg #[.int .i64 x.slot, .int .i64 x.query, .int .i64 x.shard, .int .i64 x.seq, .int .i64 x.epoch, .string x.text, .int .i64 x.k, .int .i64 x.batch, .bool x.first, .int .i64 x.ad, .string x.aw]) (.agg #[.int .i64 x.slot, .int .i64 x.query, .int .i64 x.shard, .int .i64 x.seq, .int .i64 x.epoch, .string x.text, .int .i64 x.k, .int .i64 x.batch, .bool x.first, .int .i64 x.ad, .string x.aw])).run Tryz.prog w = .ok true w := by
  have f5 := ssM x.text
  have f10 := ssM x.aw
  go_simp
theorem grantM_alike (a b c : Int) (w : World) : (Op.equalIn 10000 79 (.agg #[.int .i64 a, .int .i64 b, .int .i64 c]) (.agg #[.int .i64 a, .int .i64 b, .int .i64 c])).run Tryz.prog w = .ok true w := by
  go_simp
set_option maxHeartbeats 1600000 in
theorem sameGrantM (a b c : Int) (w : World) : Calls Tryz.prog 58 #[.iface 79 (.agg #[.int .i64 a, .int .i64 b, .int .i64 c]), .iface 79 (.agg #[.int .i64 a, .int .i64 b, .int .i64 c])] w fun e w' => e = .returned (.bool true) ∧ Below w.heap.size w w' := by
  have tHello := taGrantHello a b c
  have tGrant := taGrantGrant a b c
  have BX := Lib.hid (show Below w.heap.size w ((w.alloc (.cells #[.int .i64 a, .int .i64 b, .int .i64 c] 79)).alloc (.cells #[.int .i64 a, .int .i64 b, .int .i64 c] 79)) from by
    repeat' (first | exact Below.refl _ _ | refine Below.alloc ?_ (by simp <;> omega) _))
  have heq := fun w => grantM_alike a b c w
  go_enter Tryz.func58, Tryz.ntmps58
  go_wp2_with fail
  go_ret
  exact ⟨rfl, BX.out⟩
set_option maxHeartbeats 1600000 in
theorem sameAskM (x : AskP) (w : World) : Calls Tryz.prog 58 #[.iface 73 (.agg #[.int .i64 x.slot, .int .i64 x.query, .int .i64 x.shard, .int .i64 x.seq, .int .i64 x.epoch, .string x.text, .int .i64 x.k, .int .i64 x.batch, .bool x.first, .int .i64 x.ad, .string x.aw]), .iface 73 (.agg #[.int .i64 x.slot, .int .i64 x.query, .int .i64 x.shard, .int .i64 x.seq, .int .i64 x.epoch, .string x.text, .int .i64 x.k, .int .i64 x.batch, .bool x.first, .int .i64 x.ad, .string x.aw])] w fun e w' => e = .returned (.bool true) ∧ Below w.heap.size w w' := by
  have tHello := taAskHello x
  have tGrant := taAskGrant x
  have tAsk := taAskAsk x
  have BX := Lib.hid (show Below w.heap.size w ((w.alloc (.cells #[.int .i64 x.slot, .int .i64 x.query, .int .i64 x.shard, .int .i64 x.seq, .int .i64 x.epoch, .string x.text, .int .i64 x.k, .int .i64 x.batch, .bool x.first, .int .i64 x.ad, .string x.aw] 73)).alloc (.cells #[.int .i64 x.slot, .int .i64 x.query, .int .i64 x.shard, .int .i64 x.seq, .int .i64 x.epoch, .string x.text, .int .i64 x.k, .int .i64 x.batch, .bool x.first, .int .i64 x.ad, .string x.aw] 73)) from by
    repeat' (first | exact Below.refl _ _ | refine Below.alloc ?_ (by simp <;> omega) _))
  have heq := fun w => askM_alike x w
  go_enter Tryz.func58, Tryz.ntmps58
  go_wp2_with fail
  go_ret
  exact ⟨rfl, BX.out⟩
end Go.Proofs.YtblipdmagfiigaaGreat
namespace Go.Proofs.YtblipdmagfiigaaGreat
open Go.RowKit
set_option linter.unusedVariables false
set_option maxRecDepth 20000
set_option maxHeartbeats 800000 in
theorem sameLetters124 (p1 p2 ca cb : Nat) (t : Int) (v1 v2 : Value) (w : World) (h1 : w.cell? ⟨p1, 0, none⟩ = some (.int .i64 t)) (h2 : w.cell? ⟨p1, 1, none⟩ = some v1) (h3 : w.cell? ⟨p2, 0, none⟩ = some (.int .i64 t)) (h4 : w.cell? ⟨p2, 1, none⟩ = some v2)
    (CS0 : ∀ w', Below w.heap.size w w' → Calls Tryz.prog 58 #[v1, v2] w' fun e w'' => e = .returned (.bool true) ∧ Below w'.heap.size w' w'') :
    Calls Tryz.prog 30 #[.slice (some ⟨p1, 0, none⟩) 1 ca, .slice (some ⟨p2, 0, none⟩) 1 cb] w fun e w' => e = .returned (.bool true) ∧ Below w.heap.size w w' := by
  have CS := Lib.hid CS0
  have SB := Lib.hid (show ∀ w', Below w.heap.size w w' → ((Below w.heap.size w w' ∧ w'.cell? ⟨p1, 0, none⟩ = some (.int .i64 t) ∧ w'.cell? ⟨p1, 1, none⟩ = some v1) ∧ w'.cell? ⟨p2, 0, none⟩ = some (.int .i64 t) ∧ w'.cell? ⟨p2, 1, none⟩ = some v2) from fun w' hb => ⟨⟨hb, (hb.cell (p := ⟨p1, 0, none⟩) (lt_of_cell h1)).trans h1, (hb.cell (p := ⟨p1, 1, none⟩) (lt_of_cell h2)).trans h2⟩, (hb.cell (p := ⟨p2, 0, none⟩) (lt_of_cell h3)).trans h3, (hb.cell (p := ⟨p2, 1, none⟩) (lt_of_cell h4)).trans h4⟩)
  clear h1 h2 h3 h4 CS0
  go_enter Tryz.func30, Tryz.ntmps30
  go_wp2_with fail
  go_loopw [5] (fun iv wr => ∃ j : Nat, iv = .int .i64 j ∧ ((j = 0 ∧ Hid (w = wr)) ∨ (j = 1 ∧ Hid (Below w.heap.size w wr)))) (fun iv _ => 1 - (intOf iv).toNat)
  case atStart => exact ⟨0, rfl, Or.inl ⟨rfl, Lib.hid rfl⟩⟩
  case round =>
    obtain ⟨j, rfl, ⟨rfl, hw⟩ | ⟨rfl, hB⟩⟩ := hrel
    · obtain rfl := hw.out
      go_upto_region 6 with fail
      have hS0 := SB.out w.drew ((Below.refl _ _).drew)
      refine wp_region_held_drew (S := (fun w' => ((Below w.heap.size w w' ∧ w'.cell? ⟨p1, 0, none⟩ = some (.int .i64 t) ∧ w'.cell? ⟨p1, 1, none⟩ = some v1) ∧ w'.cell? ⟨p2, 0, none⟩ = some (.int .i64 t) ∧ w'.cell? ⟨p2, 1, none⟩ = some v2))) (by kernel_rfl) hS0 (fun hHeld0 => ?_)
      clear hS0
      generalize w.drew = X0 at hHeld0 ⊢
      refine wpAnyH_take (i := 0) (oi := { dst := some 17, op := Op.move (Operand.tmp 0), type := 32, pos := "same.go:430", after := #[], guard := none }) (v := ?vz1) rfl (by kernel_rfl) (by kernel_rfl) (by kernel_rfl) (fun _ _ _ h => h) (Or.inl ⟨by rfl, ?hyz1⟩) (by assumption) ?restz1
      case hyz1 => (intro w hSw; (try dsimp only at hSw); go_simp; (try with_reducible rfl))
      try simp only [Act.put, List.setIfInBounds_toArray, List.set_cons_zero, List.set_cons_succ]
      refine wpAnyH_take (i := 1) (oi := { dst := some 18, op := Op.move (Operand.tmp 5), type := 3, pos := "same.go:430", after := #[], guard := none }) (v := ?vz2) rfl (by kernel_rfl) (by kernel_rfl) (by kernel_rfl) (fun _ _ _ h => h) (Or.inl ⟨by rfl, ?hyz2⟩) (by assumption) ?restz2
      case hyz2 => (intro w hSw; (try dsimp only at hSw); go_simp; (try with_reducible rfl))
      try simp only [Act.put, List.setIfInBounds_toArray, List.set_cons_zero, List.set_cons_succ]
      refine wpAnyH_take (i := 2) (oi := { dst := some 19, op := Op.indexAddr 32 (Operand.tmp 17) (Operand.tmp 18), type := 0, pos := "same.go:430", after := #[{ on := 0, ground := Ground.data }, { on := 1, ground := Ground.data }], guard := none }) (v := ?vz3) rfl (by kernel_rfl) (by kernel_rfl) (by kernel_rfl) (fun _ _ _ h => h) (Or.inl ⟨by rfl, ?hyz3⟩) (by assumption) ?restz3
      case hyz3 => (intro w hSw; (try dsimp only at hSw); go_simp; (try with_reducible rfl))
      try simp only [Act.put, List.setIfInBounds_toArray, List.set_cons_zero, List.set_cons_succ]
      refine wpAnyH_take (i := 3) (oi := { dst := some 20, op := Op.fieldAddr 68 (Operand.tmp 19) 0, type := 0, pos := "same.go:430", after := #[{ on := 2, ground := Ground.data }], guard := none }) (v := ?vz4) rfl (by kernel_rfl) (by kernel_rfl) (by kernel_rfl) (fun _ _ _ h => h) (Or.inl ⟨by rfl, ?hyz4⟩) (by assumption) ?restz4
      case hyz4 => (intro w hSw; (try dsimp only at hSw); go_simp; (try with_reducible rfl))
      try simp only [Act.put, List.setIfInBounds_toArray, List.set_cons_zero, List.set_cons_succ]
      refine wpAnyH_take (i := 4) (oi := { dst := some 21, op := Op.load 3 (Operand.tmp 20), type := 3, pos := "same.go:430", after := #[{ on := 3, ground := Ground.data }], guard := none }) (v := ?vz5) rfl (by kernel_rfl) (by kernel_rfl) (by kernel_rfl) (fun _ _ _ h => h) (Or.inl ⟨by rfl, ?hyz5⟩) (by assumption) ?restz5
      case hyz5 => (intro w hSw; (try dsimp only at hSw); go_simp; (try with_reducible rfl))
      try simp only [Act.put, List.setIfInBounds_toArray, List.set_cons_zero, List.set_cons_succ]
      refine wpAnyH_take (i := 5) (oi := { dst := some 22, op := Op.move (Operand.tmp 1), type := 32, pos := "same.go:430", after := #[], guard := none }) (v := ?vz6) rfl (by kernel_rfl) (by kernel_rfl) (by kernel_rfl) (fun _ _ _ h => h) (Or.inl ⟨by rfl, ?hyz6⟩) (by assumption) ?restz6
      case hyz6 => (intro w hSw; (try dsimp only at hSw); go_simp; (try with_reducible rfl))
      try simp only [Act.put, List.setIfInBounds_toArray, List.set_cons_zero, List.set_cons_succ]
      refine wpAnyH_take (i := 6) (oi := { dst := some 23, op := Op.move (Operand.tmp 5), type := 3, pos := "same.go:430", after := #[], guard := none }) (v := ?vz7) rfl (by kernel_rfl) (by kernel_rfl) (by kernel_rfl) (fun _ _ _ h => h) (Or.inl ⟨by rfl, ?hyz7⟩) (by assumption) ?restz7
      case hyz7 => (intro w hSw; (try dsimp only at hSw); go_simp; (try with_reducible rfl))
      try simp only [Act.put, List.setIfInBounds_toArray, List.set_cons_zero, List.set_cons_succ]
      refine wpAnyH_take (i := 7) (oi := { dst := some 24, op := Op.indexAddr 32 (Operand.tmp 22) (Operand.tmp 23), type := 0, pos := "same.go:430", after := #[{ on := 5, ground := Ground.data }, { on := 6, ground := Ground.data }], guard := none }) (v := ?vz8) rfl (by kernel_rfl) (by kernel_rfl) (by kernel_rfl) (fun _ _ _ h => h) (Or.inl ⟨by rfl, ?hyz8⟩) (by assumption) ?restz8
      case hyz8 => (intro w hSw; (try dsimp only at hSw); go_simp; (try with_reducible rfl))
      try simp only [Act.put, List.setIfInBounds_toArray, List.set_cons_zero, List.set_cons_succ]
      refine wpAnyH_take (i := 8) (oi := { dst := some 25, op := Op.fieldAddr 68 (Operand.tmp 24) 0, type := 0, pos := "same.go:430", after := #[{ on := 7, ground := Ground.data }], guard := none }) (v := ?vz9) rfl (by kernel_rfl) (by kernel_rfl) (by kernel_rfl) (fun _ _ _ h => h) (Or.inl ⟨by rfl, ?hyz9⟩) (by assumption) ?restz9
      case hyz9 => (intro w hSw; (try dsimp only at hSw); go_simp; (try with_reducible rfl))
      try simp only [Act.put, List.setIfInBounds_toArray, List.set_cons_zero, List.set_cons_succ]
      refine wpAnyH_take (i := 9) (oi := { dst := some 26, op := Op.load 3 (Operand.tmp 25), type := 3, pos := "same.go:430", after := #[{ on := 8, ground := Ground.data }], guard := none }) (v := ?vz10) rfl (by kernel_rfl) (by kernel_rfl) (by kernel_rfl) (fun _ _ _ h => h) (Or.inl ⟨by rfl, ?hyz10⟩) (by assumption) ?restz10
      case hyz10 => (intro w hSw; (try dsimp only at hSw); go_simp; (try with_reducible rfl))
      try simp only [Act.put, List.setIfInBounds_toArray, List.set_cons_zero, List.set_cons_succ]
      refine wpAnyH_take (i := 10) (oi := { dst := some 27, op := Op.binOp BinOp.neq 3 (Operand.tmp 21) (Operand.tmp 26) 3, type := 4, pos := "same.go:430", after := #[{ on := 4, ground := Ground.data }, { on := 9, ground := Ground.data }], guard := none }) (v := ?vz11) rfl (by kernel_rfl) (by kernel_rfl) (by kernel_rfl) (fun _ _ _ h => h) (Or.inl ⟨by rfl, ?hyz11⟩) (by assumption) ?restz11
      case hyz11 => (intro w hSw; (try dsimp only at hSw); go_simp; (try with_reducible rfl))
      try simp only [Act.put, List.setIfInBounds_toArray, List.set_cons_zero, List.set_cons_succ]
      refine wpAnyH_take (i := 11) (oi := { dst := some 28, op := Op.move (Operand.tmp 27), type := 4, pos := "same.go:430", after := #[{ on := 10, ground := Ground.data }], guard := none }) (v := ?vz12) rfl (by kernel_rfl) (by kernel_rfl) (by kernel_rfl) (fun _ _ _ h => h) (Or.inl ⟨by rfl, ?hyz12⟩) (by assumption) ?restz12
      case hyz12 => (intro w hSw; (try dsimp only at hSw); go_simp; (try with_reducible rfl))
      try simp only [Act.put, List.setIfInBounds_toArray, List.set_cons_zero, List.set_cons_succ]
      refine wpAnyH_take (i := 12) (oi := { dst := some 29, op := Op.move (Operand.tmp 0), type := 32, pos := "same.go:430", after := #[{ on := 11, ground := Ground.guard }], guard := some (11, false) }) (v := ?vz13) rfl (by kernel_rfl) (by kernel_rfl) (by kernel_rfl) (fun _ _ _ h => h) (Or.inl ⟨by rfl, ?hyz13⟩) (by assumption) ?restz13
      case hyz13 => (intro w hSw; (try dsimp only at hSw); go_simp; (try with_reducible rfl))
      try simp only [Act.put, List.setIfInBounds_toArray, List.set_cons_zero, List.set_cons_succ]
      refine wpAnyH_take (i := 13) (oi := { dst := some 30, op := Op.move (Operand.tmp 5), type := 3, pos := "same.go:430", after := #[{ on := 11, ground := Ground.guard }], guard := some (11, false) }) (v := ?vz14) rfl (by kernel_rfl) (by kernel_rfl) (by kernel_rfl) (fun _ _ _ h => h) (Or.inl ⟨by rfl, ?hyz14⟩) (by assumption) ?restz14
      case hyz14 => (intro w hSw; (try dsimp only at hSw); go_simp; (try with_reducible rfl))
      try simp only [Act.put, List.setIfInBounds_toArray, List.set_cons_zero, List.set_cons_succ]
      refine wpAnyH_take (i := 14) (oi := { dst := some 31, op := Op.indexAddr 32 (Operand.tmp 29) (Operand.tmp 30), type := 0, pos := "same.go:430", after := #[{ on := 12, ground := Ground.data }, { on := 13, ground := Ground.data }, { on := 11, ground := Ground.guard }], guard := some (11, false) }) (v := ?vz15) rfl (by kernel_rfl) (by kernel_rfl) (by kernel_rfl) (fun _ _ _ h => h) (Or.inl ⟨by rfl, ?hyz15⟩) (by assumption) ?restz15
      case hyz15 => (intro w hSw; (try dsimp only at hSw); go_simp; (try with_reducible rfl))
      try simp only [Act.put, List.setIfInBounds_toArray, List.set_cons_zero, List.set_cons_succ]
      refine wpAnyH_take (i := 15) (oi := { dst := some 32, op := Op.fieldAddr 68 (Operand.tmp 31) 1, type := 0, pos := "same.go:430", after := #[{ on := 14, ground := Ground.data }, { on := 11, ground := Ground.guard }], guard := some (11, false) }) (v := ?vz16) rfl (by kernel_rfl) (by kernel_rfl) (by kernel_rfl) (fun _ _ _ h => h) (Or.inl ⟨by rfl, ?hyz16⟩) (by assumption) ?restz16
      case hyz16 => (intro w hSw; (try dsimp only at hSw); go_simp; (try with_reducible rfl))
      try simp only [Act.put, List.setIfInBounds_toArray, List.set_cons_zero, List.set_cons_succ]
      refine wpAnyH_take (i := 16) (oi := { dst := some 33, op := Op.load 20 (Operand.tmp 32), type := 20, pos := "same.go:430", after := #[{ on := 15, ground := Ground.data }, { on := 11, ground := Ground.guard }], guard := some (11, false) }) (v := ?vz17) rfl (by kernel_rfl) (by kernel_rfl) (by kernel_rfl) (fun _ _ _ h => h) (Or.inl ⟨by rfl, ?hyz17⟩) (by assumption) ?restz17
      case hyz17 => (intro w hSw; (try dsimp only at hSw); go_simp; (try with_reducible rfl))
      try simp only [Act.put, List.setIfInBounds_toArray, List.set_cons_zero, List.set_cons_succ]
      refine wpAnyH_take (i := 17) (oi := { dst := some 34, op := Op.move (Operand.tmp 1), type := 32, pos := "same.go:430", after := #[{ on := 11, ground := Ground.guard }], guard := some (11, false) }) (v := ?vz18) rfl (by kernel_rfl) (by kernel_rfl) (by kernel_rfl) (fun _ _ _ h => h) (Or.inl ⟨by rfl, ?hyz18⟩) (by assumption) ?restz18
      case hyz18 => (intro w hSw; (try dsimp only at hSw); go_simp; (try with_reducible rfl))
      try simp only [Act.put, List.setIfInBounds_toArray, List.set_cons_zero, List.set_cons_succ]
      refine wpAnyH_take (i := 18) (oi := { dst := some 35, op := Op.move (Operand.tmp 5), type := 3, pos := "same.go:430", after := #[{ on := 11, ground := Ground.guard }], guard := some (11, false) }) (v := ?vz19) rfl (by kernel_rfl) (by kernel_rfl) (by kernel_rfl) (fun _ _ _ h => h) (Or.inl ⟨by rfl, ?hyz19⟩) (by assumption) ?restz19
      case hyz19 => (intro w hSw; (try dsimp only at hSw); go_simp; (try with_reducible rfl))
      try simp only [Act.put, List.setIfInBounds_toArray, List.set_cons_zero, List.set_cons_succ]
      refine wpAnyH_take (i := 19) (oi := { dst := some 36, op := Op.indexAddr 32 (Operand.tmp 34) (Operand.tmp 35), type := 0, pos := "same.go:430", after := #[{ on := 17, ground := Ground.data }, { on := 18, ground := Ground.data }, { on := 11, ground := Ground.guard }], guard := some (11, false) }) (v := ?vz20) rfl (by kernel_rfl) (by kernel_rfl) (by kernel_rfl) (fun _ _ _ h => h) (Or.inl ⟨by rfl, ?hyz20⟩) (by assumption) ?restz20
      case hyz20 => (intro w hSw; (try dsimp only at hSw); go_simp; (try with_reducible rfl))
      try simp only [Act.put, List.setIfInBounds_toArray, List.set_cons_zero, List.set_cons_succ]
      refine wpAnyH_take (i := 20) (oi := { dst := some 37, op := Op.fieldAddr 68 (Operand.tmp 36) 1, type := 0, pos := "same.go:430", after := #[{ on := 19, ground := Ground.data }, { on := 11, ground := Ground.guard }], guard := some (11, false) }) (v := ?vz21) rfl (by kernel_rfl) (by kernel_rfl) (by kernel_rfl) (fun _ _ _ h => h) (Or.inl ⟨by rfl, ?hyz21⟩) (by assumption) ?restz21
      case hyz21 => (intro w hSw; (try dsimp only at hSw); go_simp; (try with_reducible rfl))
      try simp only [Act.put, List.setIfInBounds_toArray, List.set_cons_zero, List.set_cons_succ]
      refine wpAnyH_take (i := 21) (oi := { dst := some 38, op := Op.load 20 (Operand.tmp 37), type := 20, pos := "same.go:430", after := #[{ on := 20, ground := Ground.data }, { on := 11, ground := Ground.guard }], guard := some (11, false) }) (v := ?vz22) rfl (by kernel_rfl) (by kernel_rfl) (by kernel_rfl) (fun _ _ _ h => h) (Or.inl ⟨by rfl, ?hyz22⟩) (by assumption) ?restz22
      case hyz22 => (intro w hSw; (try dsimp only at hSw); go_simp; (try with_reducible rfl))
      try simp only [Act.put, List.setIfInBounds_toArray, List.set_cons_zero, List.set_cons_succ]
      refine wpAnyH_ready (rs := [22]) (by kernel_rfl) (by simp) ?_
      refine AllReadyH.cons (o := { dst := some 39, op := Op.call { callee := Callee.value (Operand.func 58), args := #[Operand.tmp 33, Operand.tmp 38], argTypes := #[20, 20] }, type := 4, pos := "same.go:430", after := #[{ on := 16, ground := Ground.data }, { on := 21, ground := Ground.data }, { on := 11, ground := Ground.chain }, { on := 11, ground := Ground.guard }], guard := some (11, false) }) rfl (fun K hK => ?_) AllReadyH.nil
      rw [if_pos (by rfl)]
      go_simp
      go_at_call 58
      with_reducible refine (CS.out _ hHeld0.1.1).mono ?_
      rintro e X1 ⟨rfl, hb⟩
      go_wp2_with fail
      have B1 := Lib.hid (hHeld0.1.1.trans (hb.mono hHeld0.1.1.size))
      refine hK.out _ _ (SB.out _ B1.out) (fun hHeld1 => ?_)
      clear hb hK K hHeld0
      try simp only [Act.put, List.setIfInBounds_toArray, List.set_cons_zero, List.set_cons_succ]
      refine wpAnyH_take (i := 23) (oi := { dst := some 40, op := Op.unOp UnOp.not 4 (Operand.tmp 39), type := 4, pos := "same.go:430", after := #[{ on := 22, ground := Ground.data }, { on := 11, ground := Ground.guard }], guard := some (11, false) }) (v := ?vz23) rfl (by kernel_rfl) (by kernel_rfl) (by kernel_rfl) (fun _ _ _ h => h) (Or.inl ⟨by rfl, ?hyz23⟩) (by assumption) ?restz23
      case hyz23 => (intro w hSw; (try dsimp only at hSw); go_simp; (try with_reducible rfl))
      try simp only [Act.put, List.setIfInBounds_toArray, List.set_cons_zero, List.set_cons_succ]
      refine wpAnyH_take (i := 24) (oi := { dst := some 41, op := Op.pick (Operand.tmp 28) (Operand.const (Value.bool true)) (Operand.tmp 40), type := 4, pos := "same.go:430", after := #[{ on := 11, ground := Ground.data }, { on := 23, ground := Ground.data }], guard := none }) (v := ?vz24) rfl (by kernel_rfl) (by kernel_rfl) (by kernel_rfl) (fun _ _ _ h => h) (Or.inl ⟨by rfl, ?hyz24⟩) (by assumption) ?restz24
      case hyz24 => (intro w hSw; (try dsimp only at hSw); go_simp; (try with_reducible rfl))
      try simp only [Act.put, List.setIfInBounds_toArray, List.set_cons_zero, List.set_cons_succ]
      refine wpAnyH_done (by kernel_rfl) ?_ _
      go_wp2_with fail
      go_roundw
      case rel => exact ⟨1, rfl, Or.inr ⟨rfl, B1⟩⟩
      case measure => simp [intOf]
    · go_wp2_with fail
      go_ret
      exact ⟨rfl, hB.out⟩
end Go.Proofs.YtblipdmagfiigaaGreat
namespace Go.Proofs.YtblipdmagfiigaaGreat
open Go.RowKit
set_option linter.unusedVariables false
set_option maxRecDepth 20000
theorem timers24 {B0 : Nat} {col : Nat → Nat} {x ca cc cw c2 bl bs bo ba bt bq n : Nat} {ls : Lt} {ss : Sl} {f : Int → Option Value} (w : World) (h : CoS B0 w col x ca cc cw c2 bl bs bo ba bt bq n ls ss M1 f) : Calls Tryz.prog 17 #[.pointer (some ⟨x, 0, none⟩)] w fun e w' => e = .returned (.int .i64 1) ∧ w = w' := by
  obtain ⟨St, hT, -⟩ := h.T
  have CL := Lib.hid (show Calls Tryz.prog 44 #[.pointer (some ⟨bt, 0, none⟩)] w fun e w' => e = .returned (.int .i64 1) ∧ w = w' from tLenT_any bt 24 M1 St w hT)
  have x16 : w.cell? ⟨x, 16, none⟩ = some (.pointer (some ⟨bt, 0, none⟩)) := co_cell h.box rfl
  clear h hT
  go_enter Tryz.func17, Tryz.ntmps17
  go_wp2_with fail
  refine CL.out.mono ?_
  rintro e w2 ⟨rfl, rfl⟩
  go_wp2_with fail
  go_ret
  exact ⟨rfl, rfl⟩
set_option maxRecDepth 100000 in
set_option maxHeartbeats 3200000 in
theorem awake24_any (w : World) : Calls Tryz.prog 7 #[] w fun e w' => e = .returned (.bool true) ∧ Below w.heap.size w w' := by
  go_enter Tryz.func7, Tryz.ntmps7
  go_wp2_with fail
  refine (small24_any w).mono ?_
  rintro e w1 ⟨B, rfl, ok, hb1⟩
  have CN := Lib.hid (cnew_any B w1 ok)
  have B1 := Lib.hid hb1
  clear ok hb1
  go_wp2_with fail
  refine CN.out.mono ?_
  rintro e w2 ⟨col, x, ca, cc, cw, c2, bl, bs, bo, ba, bt, bq, rfl, hC, hb2⟩
  have C2 := Lib.hid (show CoS w1.heap.size w2 col x ca cc cw c2 bl bs bo ba bt bq 0 ls0 ss0 [] (fun _ => none) from hC)
  have B2 := Lib.hid hb2
  clear hC hb2 CN
  go_wp2_with fail
  refine (take24 w2 C2.out).mono ?_
  rintro e w3 ⟨p, rfl, hone, hp, hC3, hb3⟩
  have C3 := Lib.hid hC3
  have B3 := Lib.hid (B2.out.trans hb3)
  have O3 := Lib.hid hone
  have HP := Lib.hid hp
  clear hone hp hC3 hb3 C2 B2
  go_wp2_with fail
  refine (submit24 w3 C3.out).mono ?_
  rintro e w4 ⟨col', qb, sb, bm, ia, ic, rfl, hC4, hQ4, hE4⟩
  have C4 := Lib.hid hC4
  have Q4 := Lib.hid hQ4
  have E4 := Lib.hid hE4
  clear hC4 hQ4 hE4
  go_wp2_with fail
  refine (wake24 qb sb bm ia ic w4 C4.out Q4.out).mono ?_
  rintro e w5 ⟨g, c, col'', rfl, hone5, hC5, hE5⟩
  have hE := E4.out.trans hE5
  have B5 := Lib.hid (show Below w.heap.size w w5 from (B1.out.trans (B3.out.mono B1.out.size)).trans ((hE.1.below (fun k hk => C3.out.lo k hk) C3.out.hB).mono B1.out.size))
  have O5 := Lib.hid (O3.out.turn hE.1 (by have := HP.out; omega))
  have P5 := Lib.hid hone5
  have C5 := Lib.hid hC5
  clear hone5 hC5 hE5 hE C4 Q4 E4 C3 B3 O3 HP
  go_upto_region 8 with fail
  obtain ⟨q, hq⟩ : ∃ q, w5.heap.size = q := ⟨_, rfl⟩
  have hb6 := below_one w5 (.cells #[.int .i64 0, .int .i64 1, .int .i64 0, .int .i64 0, .int .i64 1, .string coA, .int .i64 1, .int .i64 2, .bool true, .int .i64 0, .string { data := #[] }] 73)
  have K6 := Lib.hid (show (w5.alloc (.cells #[.int .i64 0, .int .i64 1, .int .i64 0, .int .i64 0, .int .i64 1, .string coA, .int .i64 1, .int .i64 2, .bool true, .int .i64 0, .string { data := #[] }] 73)).heap[q]? = some (.cells #[.int .i64 0, .int .i64 1, .int .i64 0, .int .i64 0, .int .i64 1, .string coA, .int .i64 1, .int .i64 2, .bool true, .int .i64 0, .string { data := #[] }] 73 (0, 0)) from by rw [← hq]; exact heap_alloc_new w5 _)
  have B6 := Lib.hid (B5.out.trans (hb6.mono B5.out.size))
  have O6 := Lib.hid (O5.out.below hb6)
  have P6 := Lib.hid (P5.out.below hb6)
  have C6 := Lib.hid (C5.out.below hb6)
  rw [hq]
  generalize w5.alloc (.cells #[.int .i64 0, .int .i64 1, .int .i64 0, .int .i64 0, .int .i64 1, .string coA, .int .i64 1, .int .i64 2, .bool true, .int .i64 0, .string { data := #[] }] 73) = w6 at *
  clear hb6 hq O5 P5 C5
  have hb7 := below_one w6 (.cells #[.int .i64 1, .iface 79 (.agg #[.int .i64 1, .int .i64 1, .int .i64 1])] 68)
  have B7 := Lib.hid (B6.out.trans (hb7.mono B6.out.size))
  have L7 : One24 (w6.alloc (.cells #[.int .i64 1, .iface 79 (.agg #[.int .i64 1, .int .i64 1, .int .i64 1])] 68)) 1 79 (.agg #[.int .i64 1, .int .i64 1, .int .i64 1]) w6.heap.size := ⟨(cell_alloc (w := w6) rfl).trans rfl, (cell_alloc (w := w6) rfl).trans rfl⟩
  have O7 := O6.out.below hb7
  have S7 := Lib.hid (sameLetters124 p w6.heap.size 1 1 1 _ _ _ O7.1 O7.2 L7.1 L7.2 (fun w' hb => sameGrantM 1 1 1 w'))
  have K7 := Lib.hid ((hb7.block q (Array.getElem?_eq_some_iff.1 K6.out).1).trans K6.out)
  have P7 := Lib.hid (P6.out.below hb7)
  have C7 := Lib.hid (C6.out.below hb7)
  clear hb7 L7 O7 O6 P6 C6 K6
  go_wp2_with fail
  refine S7.out.mono ?_
  rintro e w8 ⟨rfl, hb8⟩
  have B8 := Lib.hid (B7.out.trans (hb8.mono B7.out.size))
  have K8 := Lib.hid ((hb8.block q (Array.getElem?_eq_some_iff.1 K7.out).1).trans K7.out)
  have P8 := Lib.hid (P7.out.below hb8)
  have C8 := Lib.hid (C7.out.below hb8)
  clear hb8 S7 K7 P7 C7
  have a0 : w8.cell? ⟨q, 0, none⟩ = some (.int .i64 0) := co_cell K8.out rfl
  have a1 : w8.cell? ⟨q, 1, none⟩ = some (.int .i64 1) := co_cell K8.out rfl
  have a2 : w8.cell? ⟨q, 2, none⟩ = some (.int .i64 0) := co_cell K8.out rfl
  have a3 : w8.cell? ⟨q, 3, none⟩ = some (.int .i64 0) := co_cell K8.out rfl
  have a4 : w8.cell? ⟨q, 4, none⟩ = some (.int .i64 1) := co_cell K8.out rfl
  have a5 : w8.cell? ⟨q, 5, none⟩ = some (.string coA) := co_cell K8.out rfl
  have a6 : w8.cell? ⟨q, 6, none⟩ = some (.int .i64 1) := co_cell K8.out rfl
  have a7 : w8.cell? ⟨q, 7, none⟩ = some (.int .i64 2) := co_cell K8.out rfl
  have a8 : w8.cell? ⟨q, 8, none⟩ = some (.bool true) := co_cell K8.out rfl
  have a9 : w8.cell? ⟨q, 9, none⟩ = some (.int .i64 0) := co_cell K8.out rfl
  have a10 : w8.cell? ⟨q, 10, none⟩ = some (.string { data := #[] }) := co_cell K8.out rfl
  have hb9 := below_one w8 (.cells #[.int .i64 1, .iface 73 (.agg #[.int .i64 0, .int .i64 1, .int .i64 0, .int .i64 0, .int .i64 1, .string coA, .int .i64 1, .int .i64 2, .bool true, .int .i64 0, .string { data := #[] }])] 68)
  have B9 := Lib.hid (B8.out.trans (hb9.mono B8.out.size))
  have L9 : One24 (w8.alloc (.cells #[.int .i64 1, .iface 73 (.agg #[.int .i64 0, .int .i64 1, .int .i64 0, .int .i64 0, .int .i64 1, .string coA, .int .i64 1, .int .i64 2, .bool true, .int .i64 0, .string { data := #[] }])] 68)) 1 73 askV w8.heap.size := ⟨(cell_alloc (w := w8) rfl).trans rfl, (cell_alloc (w := w8) rfl).trans rfl⟩
  have P9 := P8.out.below hb9
  have S9 := Lib.hid (sameLetters124 g w8.heap.size c 1 1 _ _ _ P9.1 P9.2 L9.1 L9.2 (fun w' hb => sameAskM ⟨0, 1, 0, 0, 1, coA, 1, 2, true, 0, { data := #[] }⟩ w'))
  have C9 := Lib.hid (C8.out.below hb9)
  clear hb9 L9 P9 P8 C8 K8
  go_wp2_with fail
  refine S9.out.mono ?_
  rintro e w10 ⟨rfl, hb10⟩
  have BF := Lib.hid (B9.out.trans (hb10.mono B9.out.size))
  have CT := Lib.hid (timers24 w10 (C9.out.below hb10))
  clear hb10 S9 C9 a0 a1 a2 a3 a4 a5 a6 a7 a8 a9 a10
  go_wp2_with fail
  refine CT.out.mono ?_
  rintro e w11 ⟨rfl, rfl⟩
  go_wp2_with fail
  go_ret
  exact ⟨rfl, BF.out⟩
end Go.Proofs.YtblipdmagfiigaaGreat
namespace Go.Proofs.YtblipdmagfiigaaGreat
open Go.ChangeShapes Go.WideShapes Go.ChangeAt Go.RowKit Go.Deep
set_option linter.unusedVariables false
set_option maxRecDepth 20000
theorem open_rows_cell {H : Type} {enc : TypeId × Value → H} {P : Program} {W : World} {t e : TypeId} {k : Nat} {c : Value} {fuel : Nat} {y : DataW H × List MemPlace}
    (ht : P.underlying t = some (.slice e)) (hc : P.cellsOf e = k) (hk : 0 < k) (good : List Value → Prop)
    (hgood : ∀ m cs y, DataW.trod enc P W 0 (fun _ => true) true m e cs = some y → good cs)
    (hf : DataW.trod enc P W 0 (fun _ => true) true fuel t [c] = some y) :
    ∃ (a : Option Addr) (n cap : Nat) (R : Nat → List Value), c = .slice a n cap ∧ (a = none → n = 0 ∧ cap = 0) ∧ n ≤ cap ∧ cap ≤ maxLen ∧ (∀ i, i < n → good (R i)) ∧
      (0 < n → ∃ b o, a = some ⟨b, o, none⟩ ∧ ∀ i, i < n → ∀ j, j < k → W.cell? ⟨b, o + i * k + j, none⟩ = (R i)[j]?) := by
  rcases open_slice ht hf with ⟨hcs, _⟩ | ⟨x, len, cap, m, n, D, Pl, hcs, _, hl, hm, hmm, _, hx⟩
  · obtain rfl : c = .slice none 0 0 := by simpa using hcs
    exact ⟨none, 0, 0, fun _ => [], rfl, fun _ => ⟨rfl, rfl⟩, Nat.le_refl _, by unfold maxLen; omega, by simp, by simp⟩
  · obtain rfl : c = .slice (some x) len cap := by simpa using hcs
    simp at hmm
    subst hmm
    rw [hc] at hx
    have hR : ∀ i, ∃ cs' : List Value, i < m → W.cells? 0 (x.add (i * k)) k = some cs' ∧ good cs' := fun i => by
      by_cases hi : i < m
      · obtain ⟨cs', h1, h2⟩ := hx i hi
        exact ⟨cs', fun _ => ⟨h1, hgood _ _ _ h2⟩⟩
      · exact ⟨[], fun h => absurd h hi⟩
    refine ⟨some x, len, m, fun i => (hR i).choose, rfl, (fun h => by cases h), hl, hm, fun i hi => ((hR i).choose_spec (by omega)).2, fun h0 => ?_⟩
    have h1 := fun i (hi : i < m) => (World.cells?_some ((hR i).choose_spec hi).1)
    obtain ⟨b, off, spot⟩ := x
    have hspot : spot = none := by
      have h2 := (h1 0 (by omega)).2.2 0 hk
      have h3 := (h1 0 (by omega)).2.1
      have h4 : ((hR 0).choose)[0]? = some (((hR 0).choose)[0]'(by omega)) := List.getElem?_eq_getElem _
      rw [h4] at h2
      simpa [Addr.add] using World.cell?_spot h2
    subst hspot
    refine ⟨b, off, rfl, fun i hi j hj => ?_⟩
    have h2 := (h1 i (by omega)).2.2 j hj
    rw [← h2, Go.WideShapes.add_plain, Go.WideShapes.add_plain]
end Go.Proofs.YtblipdmagfiigaaGreat
namespace Go.Proofs.YtblipdmagfiigaaGreat
open Go.ChangeShapes Go.WideShapes Go.ChangeAt Go.RowKit Go.Deep
set_option linter.unusedVariables false
set_option maxRecDepth 20000
theorem open_pairs_cell {H : Type} {enc : TypeId × Value → H} {W : World} {c : Value} {fuel : Nat} {y : DataW H × List MemPlace} {t e : TypeId} {fs : Array Field} {f0 f1 : Field}
    (ht : Tryz.prog.underlying t = some (.slice e)) (he : Tryz.prog.underlying e = some (.struct fs)) (hc : Tryz.prog.cellsOf e = 2) (hf0 : fs[0]? = some f0) (hf1 : fs[1]? = some f1) (g0 : f0.type = 3 ∧ f0.offset = 0) (g1 : f1.type = 9 ∧ f1.offset = 1)
    (hf : DataW.trod enc Tryz.prog W 0 (fun _ => true) true fuel t [c] = some y) :
    ∃ a n cap ks, c = .slice a n cap ∧ HoldsK W a n ks ∧ (a = none → n = 0 ∧ cap = 0) ∧ n ≤ cap ∧ n ≤ 9223372036854775807 ∧ ∀ k ∈ ks, KeyOk k := by
  obtain ⟨a, n, cap, R, rfl, hnil, h1, h2, hg, hc⟩ := open_rows_cell ht hc (by omega) (fun cs => ∃ k : KV, KeyOk k ∧ cs = [.int .i64 k.1, .string k.2]) (fun _ _ _ h => pair_of he hc hf0 hf1 g0 g1 h) hf
  have hx : ∀ i, ∃ k : KV, i < n → KeyOk k ∧ R i = [.int .i64 k.1, .string k.2] := fun i => by
    by_cases hi : i < n
    · obtain ⟨x, h3⟩ := hg i hi
      exact ⟨x, fun _ => h3⟩
    · exact ⟨k0, fun h => absurd h hi⟩
  have hget : ∀ i, i < n → ((List.range n).map fun i => (hx i).choose).getD i k0 = (hx i).choose := fun i hi => by simp [List.getD_eq_getElem?_getD, hi]
  refine ⟨a, n, cap, (List.range n).map fun i => (hx i).choose, rfl, ⟨by simp, fun h0 => ?_⟩, hnil, h1, by unfold maxLen at h2; omega, fun k hk => ?_⟩
  · obtain ⟨b, o, ha, hcell⟩ := hc h0
    refine ⟨b, o, ha, fun i hi => ?_⟩
    have e := ((hx i).choose_spec hi).2
    have c0 := hcell i hi 0 (by omega)
    have c1 := hcell i hi 1 (by omega)
    rw [e] at c0 c1
    rw [hget i hi]
    exact ⟨by simpa using c0, by simpa using c1⟩
  · obtain ⟨i, hi, rfl⟩ := List.mem_map.1 hk
    exact ((hx i).choose_spec (by simpa using hi)).1
end Go.Proofs.YtblipdmagfiigaaGreat
namespace Go.Proofs.YtblipdmagfiigaaGreat
open Go.ChangeShapes Go.WideShapes Go.ChangeAt Go.RowKit
set_option linter.unusedVariables false
set_option maxRecDepth 20000
/-- A struct by value, opened: its cells, and of each field its own reading. -/
theorem open_aggs2 {H : Type} {enc : TypeId × Value → H} {P : Program} {w : World} {base : Nat} {spare : Nat → Bool} {held : Bool} {r : Reach} {b0 : Nat} {t : TypeId} {fs : Array Field} {v : Value} {d : DataW H} {p : List MemPlace}
    (hs : P.underlying t = some (.struct fs)) (hv : Value.okWide P w r b0 t v) (h : DataW.Trod enc P w base spare held t v d p) :
    ∃ cs : Array Value, v = .agg cs ∧ cs.size = P.cellsOf t ∧ ∃ n, ∀ (i : Nat) (f : Field), fs[i]? = some f → ∃ y, DataW.trod enc P w base spare held n f.type ((cs.toList.drop f.offset).take (P.cellsOf f.type)) = some y := by
  obtain ⟨cs, rfl, hsz⟩ := okWide_struct hs hv
  obtain ⟨fuel, hf⟩ := h
  obtain ⟨xs, n, _, _, hl, hlen, hx⟩ := DataW.trod_struct hs hf
  refine ⟨cs, rfl, hsz, n, fun i f hi => ?_⟩
  have h1 := hx i f hi
  have hlt : i < xs.length := by
    rw [hlen]
    rcases Nat.lt_or_ge i fs.size with h' | h'
    · exact h'
    · rw [Array.getElem?_eq_none h'] at hi; cases hi
  rw [List.getElem?_eq_getElem hlt] at h1
  exact ⟨_, by simpa [Value.cells] using h1⟩
theorem array12c {α : Type} {cs : Array α} (h : cs.size = 12) : ∃ c0 c1 c2 c3 c4 c5 c6 c7 c8 c9 c10 c11, cs = #[c0, c1, c2, c3, c4, c5, c6, c7, c8, c9, c10, c11] := by
  obtain ⟨l⟩ := cs
  match l, h with
  | [c0, c1, c2, c3, c4, c5, c6, c7, c8, c9, c10, c11], _ => exact ⟨c0, c1, c2, c3, c4, c5, c6, c7, c8, c9, c10, c11, rfl⟩
theorem open_texts_cell {H : Type} {enc : TypeId × Value → H} {W : World} {v : Value} {fuel : Nat} {y : DataW H × List MemPlace}
    (hf : DataW.trod enc Tryz.prog W 0 (fun _ => true) true fuel 50 [v] = some y) :
    ∃ a n cap ts, v = .slice a n cap ∧ HoldsT W a n ts ∧ (a = none → n = 0 ∧ cap = 0) ∧ n ≤ cap ∧ n ≤ 9223372036854775807 ∧ ∀ t ∈ ts, t.size ≤ 9223372036854775807 := by
  rcases open_strings Tryz.underlying50 Tryz.underlying9 Tryz.cellsStr hf with ⟨hcs, _⟩ | ⟨x, l, c, ss, hcs, _, hl, hm, hz, _, hcell, hsz⟩
  · obtain rfl : v = .slice none 0 0 := by simpa using hcs
    exact ⟨none, 0, 0, [], rfl, HoldsT.nil _ _, fun _ => ⟨rfl, rfl⟩, Nat.le_refl _, by omega, by simp⟩
  · obtain rfl : v = .slice (some x) l c := by simpa using hcs
    have hzc : ss.length = c := by simpa using hz
    refine ⟨some x, l, c, ss.take l, rfl, ?_, (fun h => by cases h), hl, by unfold maxLen at hm; omega, fun t ht => by have := hsz t (List.mem_of_mem_take ht); unfold maxLen at this; omega⟩
    refine ⟨by simp [strsV]; omega, fun h0 => ?_⟩
    obtain ⟨b, off, spot⟩ := x
    have hspot : spot = none := by simpa [Addr.add] using World.cell?_spot (hcell 0 (by omega))
    subst hspot
    refine ⟨b, off, rfl, fun i hi => ?_⟩
    rw [← Go.WideShapes.add_plain, hcell i (by omega), getD_map_str _ i (by simp; omega)]
    congr 2
    simp only [List.getD_eq_getElem?_getD, List.getElem?_take]
    rw [if_pos hi]
theorem cells_cfg : Tryz.prog.cellsOf 53 = 12 := by kernel_rfl
theorem cells_ci : Tryz.prog.cellsOf 3 = 1 := by kernel_rfl
theorem cells_ct : Tryz.prog.cellsOf 50 = 1 := by kernel_rfl
theorem cells_ck : Tryz.prog.cellsOf 51 = 1 := by kernel_rfl
theorem cfg_int {H : Type} {enc : TypeId × Value → H} {W : World} {c : Value} {fuel : Nat} {y : DataW H × List MemPlace} (hy : DataW.trod enc Tryz.prog W 0 (fun _ => true) true fuel 3 [c] = some y) : ∃ k : Int, c = .int .i64 k := by
  obtain ⟨k, hk, _⟩ := DataW.trod_int Tryz.underlying3 hy
  exact ⟨k, by simpa using hk⟩
set_option maxRecDepth 100000 in
theorem open_cfg2 {H : Type} {enc : TypeId × Value → H} {W : World} {base : Nat} {v : Value} {d : DataW H} {p : List MemPlace}
    (hv : Value.okWide Tryz.prog W .any base 53 v) (h : DataW.Trod enc Tryz.prog W 0 (fun _ => true) true 53 v d p) :
    ∃ c : Cfg, v = .agg #[.slice c.wa c.wn c.wc, .slice c.ka c.kn c.kc, .int .i64 c.W, .int .i64 c.C, .int .i64 c.S, .int .i64 c.B, .int .i64 c.L, .int .i64 c.H, .int .i64 c.F, .int .i64 c.P, .int .i64 c.J, .int .i64 c.N] ∧ CfgOk W c ∧ (c.ka = none → c.kn = 0 ∧ c.kc = 0) := by
  obtain ⟨cs, rfl, hsz, n, hf⟩ := open_aggs2 Tryz.underlying53 hv h
  obtain ⟨c0, c1, c2, c3, c4, c5, c6, c7, c8, c9, c10, c11, rfl⟩ := array12c (hsz.trans cells_cfg)
  obtain ⟨y0, z0⟩ := hf 0 _ rfl
  obtain ⟨wa, wn, wc, ws, rfl, q1, q2, q3, q4, q5⟩ := open_texts_cell (v := c0) (by simpa [cells_ct] using z0)
  obtain ⟨y1, z1⟩ := hf 1 _ rfl
  obtain ⟨ka, kn, kc, ks, rfl, r1, r2, r3, r4, r5⟩ := open_pairs_cell (c := c1) Tryz.underlying51 Tryz.underlying105 (by kernel_rfl) rfl rfl ⟨rfl, rfl⟩ ⟨rfl, rfl⟩ (by simpa [cells_ck] using z1)
  obtain ⟨y2, z2⟩ := hf 2 _ rfl
  obtain ⟨i2, rfl⟩ := cfg_int (c := c2) (by simpa [cells_ci] using z2)
  obtain ⟨y3, z3⟩ := hf 3 _ rfl
  obtain ⟨i3, rfl⟩ := cfg_int (c := c3) (by simpa [cells_ci] using z3)
  obtain ⟨y4, z4⟩ := hf 4 _ rfl
  obtain ⟨i4, rfl⟩ := cfg_int (c := c4) (by simpa [cells_ci] using z4)
  obtain ⟨y5, z5⟩ := hf 5 _ rfl
  obtain ⟨i5, rfl⟩ := cfg_int (c := c5) (by simpa [cells_ci] using z5)
  obtain ⟨y6, z6⟩ := hf 6 _ rfl
  obtain ⟨i6, rfl⟩ := cfg_int (c := c6) (by simpa [cells_ci] using z6)
  obtain ⟨y7, z7⟩ := hf 7 _ rfl
  obtain ⟨i7, rfl⟩ := cfg_int (c := c7) (by simpa [cells_ci] using z7)
  obtain ⟨y8, z8⟩ := hf 8 _ rfl
  obtain ⟨i8, rfl⟩ := cfg_int (c := c8) (by simpa [cells_ci] using z8)
  obtain ⟨y9, z9⟩ := hf 9 _ rfl
  obtain ⟨i9, rfl⟩ := cfg_int (c := c9) (by simpa [cells_ci] using z9)
  obtain ⟨y10, z10⟩ := hf 10 _ rfl
  obtain ⟨i10, rfl⟩ := cfg_int (c := c10) (by simpa [cells_ci] using z10)
  obtain ⟨y11, z11⟩ := hf 11 _ rfl
  obtain ⟨i11, rfl⟩ := cfg_int (c := c11) (by simpa [cells_ci] using z11)
  exact ⟨⟨wa, wn, wc, ka, kn, kc, i2, i3, i4, i5, i6, i7, i8, i9, i10, i11, ws, ks⟩, rfl, ⟨q1, q2, q3, q4, q5, r1, r4, r5⟩, r2⟩
end Go.Proofs.YtblipdmagfiigaaGreat
namespace Go.Proofs.YtblipdmagfiigaaGreat
open Go.RowKit
set_option linter.unusedVariables false
set_option maxRecDepth 20000
def BTrue (w : World) (e : Ending) (w' : World) : Prop := e = .returned (.bool true) ∧ Below w.heap.size w w'
set_option maxRecDepth 100000 in
set_option maxHeartbeats 12800000 in
theorem coordRounds_any (c : Cfg) (da : Option Addr) (dn dc : Nat) (ds : List Int) (w : World) (ok : CfgOk w c) (hka : c.ka = none → c.kn = 0 ∧ c.kc = 0) (hd : HoldsI .i64 w da dn ds) (hdn : dn ≤ dc ∧ dc ≤ maxLen) :
    Calls Tryz.prog 5 #[.agg #[.slice c.wa c.wn c.wc, .slice c.ka c.kn c.kc, .int .i64 c.W, .int .i64 c.C, .int .i64 c.S, .int .i64 c.B, .int .i64 c.L, .int .i64 c.H, .int .i64 c.F, .int .i64 c.P, .int .i64 c.J, .int .i64 c.N], .slice da dn dc] w (BTrue w) := by
  have BX := Lib.hid (below_one w (.cells (cfgCells c) 53))
  obtain ⟨p, hp⟩ : ∃ p, w.heap.size = p := ⟨_, rfl⟩
  have K1 := Lib.hid (show cfgB c (w.alloc (.cells (cfgCells c) 53)) p from by unfold cfgB; rw [← hp]; exact heap_alloc_new w _)
  have OK := Lib.hid ok
  have HKA := Lib.hid hka
  have HD := Lib.hid hd
  have HP := Lib.hid hp
  have CG := Lib.hid (greatC_any c _ (ok.below BX.out))
  have FIN := Lib.hid (fun w3 (hb3 : Below w.heap.size w w3) => (awake24_any w3).mono (fun e w4 (h : _ ∧ _) => (show BTrue w e w4 from ⟨h.1, hb3.trans (h.2.mono hb3.size)⟩)))
  have hdl : (dn : Int) ≤ 9223372036854775807 := by have h1 := hdn.1; have h2 := hdn.2; unfold maxLen at h2; omega
  clear ok hka hd hdn
  go_enter Tryz.func5, Tryz.ntmps5
  go_upto_region 1 with fail
  show Code.wp _ _ _ _ (w.alloc (.cells (cfgCells c) 53))
  generalize w.alloc (.cells (cfgCells c) 53) = w1 at *
  have f0 : w1.cell? ⟨p, 0, none⟩ = some (.slice c.wa c.wn c.wc) := co_cell K1.out rfl
  have f1 : w1.cell? ⟨p, 1, none⟩ = some (.slice c.ka c.kn c.kc) := co_cell K1.out rfl
  have f2 : w1.cell? ⟨p, 2, none⟩ = some (.int .i64 c.W) := co_cell K1.out rfl
  have f3 : w1.cell? ⟨p, 3, none⟩ = some (.int .i64 c.C) := co_cell K1.out rfl
  have f4 : w1.cell? ⟨p, 4, none⟩ = some (.int .i64 c.S) := co_cell K1.out rfl
  have f5 : w1.cell? ⟨p, 5, none⟩ = some (.int .i64 c.B) := co_cell K1.out rfl
  have f6 : w1.cell? ⟨p, 6, none⟩ = some (.int .i64 c.L) := co_cell K1.out rfl
  have f7 : w1.cell? ⟨p, 7, none⟩ = some (.int .i64 c.H) := co_cell K1.out rfl
  have f8 : w1.cell? ⟨p, 8, none⟩ = some (.int .i64 c.F) := co_cell K1.out rfl
  have f9 : w1.cell? ⟨p, 9, none⟩ = some (.int .i64 c.P) := co_cell K1.out rfl
  have f10 : w1.cell? ⟨p, 10, none⟩ = some (.int .i64 c.J) := co_cell K1.out rfl
  have f11 : w1.cell? ⟨p, 11, none⟩ = some (.int .i64 c.N) := co_cell K1.out rfl
  go_wp2_with fail
  refine CG.out.mono ?_
  rintro e w2 ⟨z, rfl, hb2⟩
  have B2 := Lib.hid (BX.out.trans (hb2.mono BX.out.size))
  have K2 := Lib.hid (show cfgB c w2 p from (hb2.block p (Array.getElem?_eq_some_iff.1 K1.out).1).trans K1.out)
  clear hb2 CG f0 f1 f2 f3 f4 f5 f6 f7 f8 f9 f10 f11
  have f0 : w2.cell? ⟨p, 0, none⟩ = some (.slice c.wa c.wn c.wc) := co_cell K2.out rfl
  have f1 : w2.cell? ⟨p, 1, none⟩ = some (.slice c.ka c.kn c.kc) := co_cell K2.out rfl
  have f2 : w2.cell? ⟨p, 2, none⟩ = some (.int .i64 c.W) := co_cell K2.out rfl
  have f3 : w2.cell? ⟨p, 3, none⟩ = some (.int .i64 c.C) := co_cell K2.out rfl
  have f4 : w2.cell? ⟨p, 4, none⟩ = some (.int .i64 c.S) := co_cell K2.out rfl
  have f5 : w2.cell? ⟨p, 5, none⟩ = some (.int .i64 c.B) := co_cell K2.out rfl
  have f6 : w2.cell? ⟨p, 6, none⟩ = some (.int .i64 c.L) := co_cell K2.out rfl
  have f7 : w2.cell? ⟨p, 7, none⟩ = some (.int .i64 c.H) := co_cell K2.out rfl
  have f8 : w2.cell? ⟨p, 8, none⟩ = some (.int .i64 c.F) := co_cell K2.out rfl
  have f9 : w2.cell? ⟨p, 9, none⟩ = some (.int .i64 c.P) := co_cell K2.out rfl
  have f10 : w2.cell? ⟨p, 10, none⟩ = some (.int .i64 c.J) := co_cell K2.out rfl
  have f11 : w2.cell? ⟨p, 11, none⟩ = some (.int .i64 c.N) := co_cell K2.out rfl
  cases z with
  | true =>
    clear K1 BX
    go_wp2_with fail
    refine (FIN.out _ B2.out).mono ?_
    rintro e w4 ⟨rfl, hb4⟩
    have B4 := Lib.hid hb4
    clear hb4
    go_wp2_with fail
    go_ret
    exact ⟨rfl, B4.out⟩
  | false =>
  by_cases h20 : 20 < dn
  · have g1 : decide ((dn : Int) > 20) = true := decide_eq_true (by omega)
    have g2 : decide (20 < dn) = true := decide_eq_true h20
    clear K1 BX
    go_wp2_with fail
    refine (FIN.out _ B2.out).mono ?_
    rintro e w4 ⟨rfl, hb4⟩
    have B4 := Lib.hid hb4
    clear hb4
    go_wp2_with fail
    go_ret
    exact ⟨rfl, B4.out⟩
  have g1 : decide ((dn : Int) > 20) = false := decide_eq_false (by omega)
  have g2 : decide (20 < dn) = false := decide_eq_false h20
  obtain ⟨zm, hzm⟩ : ∃ zm, c.may = zm := ⟨_, rfl⟩
  have CM := Lib.hid (may_cfg c zm w2 (OK.out.below B2.out) hzm)
  cases zm with
  | false =>
    clear K1 BX hzm
    go_wp2_with fail
    refine CM.out.mono ?_
    rintro e w3 ⟨rfl, hb3⟩
    have B3 := Lib.hid (B2.out.trans (hb3.mono B2.out.size))
    clear hb3
    go_wp2_with fail
    refine (FIN.out _ B3.out).mono ?_
    rintro e w4 ⟨rfl, hb4⟩
    have B4 := Lib.hid hb4
    clear hb4
    go_wp2_with fail
    go_ret
    exact ⟨rfl, B4.out⟩
  | true =>
  have HM := Lib.hid hzm
  clear K1 BX hzm
  go_wp2_with fail
  refine CM.out.mono ?_
  rintro e w3 ⟨rfl, hb3⟩
  have B3 := Lib.hid (B2.out.trans (hb3.mono B2.out.size))
  have K3 := Lib.hid (show cfgB c w3 p from (hb3.block p (Array.getElem?_eq_some_iff.1 K2.out).1).trans K2.out)
  clear hb3 CM K2 B2 f0 f1 f2 f3 f4 f5 f6 f7 f8 f9 f10 f11 g1 g2
  have f7 : w3.cell? ⟨p, 7, none⟩ = some (.int .i64 c.H) := co_cell K3.out rfl
  have z7 := co_fz K3.out 7
  go_upto_region 4 with fail
  obtain ⟨c', hc'⟩ : ∃ c', ({ c with H := 1000 } : Cfg) = c' := ⟨_, rfl⟩
  have HC' := Lib.hid hc'
  have K4 := Lib.hid (show cfgB c' (w3.setCell ⟨p, 7, none⟩ (.int .i64 1000)) p from by
    unfold cfgB; rw [Go.heap_setCell_same w3 p 7 _ _ _ K3.out, ← hc']; rfl)
  have t4 : Turn (fun k => k = p) w3 (w3.setCell ⟨p, 7, none⟩ (.int .i64 1000)) := Turn.setCell rfl
  have B4 := Lib.hid (B3.out.trans (t4.below (fun k e => by rw [e, ← HP.out]; exact Nat.le_refl _) B3.out.size))
  have OK4 := Lib.hid (show CfgOk (w3.setCell ⟨p, 7, none⟩ (.int .i64 1000)) c' from by rw [← hc']; exact OK.out.below B4.out)
  have HM4 := Lib.hid (show c'.may = true from by rw [← hc']; exact may_hedge HM.out)
  have HKA4 := Lib.hid (show c'.ka = none → c'.kn = 0 ∧ c'.kc = 0 from by rw [← hc']; exact HKA.out)
  have OKC := Lib.hid (show CfgOk w c' from by rw [← hc']; exact OK.out)
  clear t4 f7 z7 K3 B3 hc' HC' HM HKA OK hp
  generalize w3.setCell ⟨p, 7, none⟩ (.int .i64 1000) = w4 at *
  obtain ⟨W, hW⟩ : ∃ W : Nat, c'.W = (W : Int) := ⟨c'.W.toNat, by have := (may_parts HM4.out).2.2.1; omega⟩
  obtain ⟨C, hC⟩ : ∃ C : Nat, c'.C = (C : Int) := ⟨c'.C.toNat, by have := (may_parts HM4.out).2.2.2.1; omega⟩
  obtain ⟨S, hS⟩ : ∃ S : Nat, c'.S = (S : Int) := ⟨c'.S.toNat, by have := (may_parts HM4.out).2.2.2.2.1; omega⟩
  have MP := Lib.hid (show (1 ≤ W ∧ W ≤ 5) ∧ (0 < C ∧ C ≤ 3) ∧ C ≤ W ∧ (1 ≤ S ∧ S ≤ 4) ∧ (1 ≤ c'.L ∧ c'.L ≤ 1000) ∧ c'.kn ≤ 5 from by
    obtain ⟨-, -, a1, a2, a3, -, a4, -⟩ := may_parts HM4.out
    exact ⟨by omega, by omega, by omega, by omega, a4, may_kn HM4.out OK4.out⟩)
  have HW := Lib.hid hW; have HC := Lib.hid hC; have HS := Lib.hid hS
  have CN := Lib.hid (gnew_any c' W C S w4 OK4.out HM4.out HKA4.out hW hC hS)
  have h20' : dn ≤ 20 := by omega
  have H20 := Lib.hid h20'
  clear hW hC hS h20 h20'
  have f0 : w4.cell? ⟨p, 0, none⟩ = some (.slice c'.wa c'.wn c'.wc) := co_cell K4.out rfl
  have f1 : w4.cell? ⟨p, 1, none⟩ = some (.slice c'.ka c'.kn c'.kc) := co_cell K4.out rfl
  have f2 : w4.cell? ⟨p, 2, none⟩ = some (.int .i64 c'.W) := co_cell K4.out rfl
  have f3 : w4.cell? ⟨p, 3, none⟩ = some (.int .i64 c'.C) := co_cell K4.out rfl
  have f4 : w4.cell? ⟨p, 4, none⟩ = some (.int .i64 c'.S) := co_cell K4.out rfl
  have f5 : w4.cell? ⟨p, 5, none⟩ = some (.int .i64 c'.B) := co_cell K4.out rfl
  have f6 : w4.cell? ⟨p, 6, none⟩ = some (.int .i64 c'.L) := co_cell K4.out rfl
  have f7 : w4.cell? ⟨p, 7, none⟩ = some (.int .i64 c'.H) := co_cell K4.out rfl
  have f8 : w4.cell? ⟨p, 8, none⟩ = some (.int .i64 c'.F) := co_cell K4.out rfl
  have f9 : w4.cell? ⟨p, 9, none⟩ = some (.int .i64 c'.P) := co_cell K4.out rfl
  have f10 : w4.cell? ⟨p, 10, none⟩ = some (.int .i64 c'.J) := co_cell K4.out rfl
  have f11 : w4.cell? ⟨p, 11, none⟩ = some (.int .i64 c'.N) := co_cell K4.out rfl
  go_wp2_with fail
  refine CN.out.mono ?_
  rintro e w5 ⟨col, i, rfl, hG, hb5⟩
  obtain ⟨B0, hB0⟩ : ∃ B, w4.heap.size = B := ⟨_, rfl⟩
  rw [hB0] at hG
  have R5 := Lib.hid (show RW w c' W C i B0 p ⟨0, newS W c'.L, newSl S, [], []⟩ w5 from by
    rw [HW.out] at hG
    refine ⟨col, fun _ => ⟨0, none, 0, none, 0, none, 0, 0, 0⟩, CoX.fresh hG _, (hb5.block p (Array.getElem?_eq_some_iff.1 K4.out).1).trans K4.out, ?_, B4.out.trans (hb5.mono B4.out.size), by rw [← hB0]; exact B4.out.size, by rw [HP.out]; exact Nat.le_refl _⟩
    have hpl := (Array.getElem?_eq_some_iff.1 K4.out).1
    by_cases e : col p = 9
    · exact e
    · have := hG.lo p e; omega)
  clear hG hb5 hB0 CN K4 B4 OK4 HKA4 f0 f1 f2 f3 f4 f5 f6 f7 f8 f9 f10 f11
  go_wp2_with fail
  go_loopw [7] (fun iv wr => ∃ k : Nat, k ≤ W ∧ iv = .int .i64 ((k : Int) + 1) ∧ ∃ s, Hid (RW w c' W C i B0 p s wr ∧ HelI W S c'.L k s)) (fun iv _ => W + 1 - (intOf iv).toNat)
  case atStart => exact ⟨0, by omega, rfl, _, Lib.hid ⟨R5.out, helI_0 MP.out.1 MP.out.2.2.2.2.1⟩⟩
  case round =>
    obtain ⟨k, hk, rfl, s, hR⟩ := hrel
    obtain ⟨col1, iq1, hC1, hK1, h91, hB1, hw1, hw2⟩ := hR.out.1
    have f2 : wr.cell? ⟨p, 2, none⟩ = some (.int .i64 (W : Int)) := by rw [← HW.out]; exact co_cell hK1 rfl
    by_cases hlt : k < W
    · have CT := Lib.hid (hTake_any ((k : Int) + 1) 1 wr hC1 hR.out.2.g)
      have gle : decide ((k : Int) + 1 ≤ (W : Int)) = true := decide_eq_true (by omega)
      have ek : IntKind.i64.wrap ((k : Int) + 1 + 1) = ((k + 1 : Nat) : Int) + 1 := by have := MP.out; rw [IntKind.wrap_i64]; omega
      have NX := Lib.hid (show ∀ e w', RetC B0 wr col1 i c' W C (helS s ((k : Int) + 1) 1) (helL s ((k : Int) + 1) 1) e w' → ∃ a m cc, e = .returned (.slice a m cc) ∧ RW w c' W C i B0 p (helS s ((k : Int) + 1) 1) w' ∧ HelI W S c'.L (k + 1) (helS s ((k : Int) + 1) 1) from fun e w' h => by
        obtain ⟨col2, iq2, a, cc, rfl, h1, h2, h3, h4⟩ := h
        exact ⟨a, _, cc, rfl, RW.step hC1 hK1 h91 hB1 hw1 hw2 h1 h2, helI_step hR.out.2 hlt MP.out.1.2⟩)
      clear hC1 hK1 h91 hB1
      go_wp2_with fail
      refine CT.out.mono ?_
      intro e w' hret
      obtain ⟨a, m, cc, rfl, h1, h2⟩ := NX.out e w' hret
      have RR := Lib.hid (show RW w c' W C i B0 p (helS s ((k : Int) + 1) 1) w' ∧ HelI W S c'.L (k + 1) (helS s ((k : Int) + 1) 1) from ⟨h1, h2⟩)
      clear hret h1 h2 CT NX
      go_wp2_with fail
      go_roundw
      case rel => exact ⟨k + 1, by omega, by first | rfl | simp [ek], _, RR⟩
      case measure => simp [intOf]; omega
    · obtain rfl : W = k := by omega
      have gle : decide ((W : Int) + 1 ≤ (W : Int)) = false := decide_eq_false (by omega)
      have HI := Lib.hid hR.out.2
      have CS := Lib.hid (show Calls Tryz.prog 8 #[.pointer (some ⟨i.x, 0, none⟩), .agg #[.string ⟨#[97, 98, 99]⟩, .int .i64 4, .int .i64 3]] wr (RetC3 B0 wr col1 i c' W C 3 1 (advS c' 0 0 (subC c' abcT 4 3 0 s)) (advL W 0 0 (subC c' abcT 4 3 0 s))) from by
        have h1 := gSubmit_yes abcT 4 3 0 wr hC1 (by rw [HI.out.ss]; exact newSl_good MP.out.2.2.2.1.1 MP.out.2.2.2.1.2) (by rw [HI.out.ss, HI.out.qs]; rfl) (by rw [HI.out.ss]; exact ff_new S MP.out.2.2.2.1.1) (by rw [HI.out.ss]; exact MP.out.2.2.2.1.1) mayP_abc size_abc (by rw [HI.out.qs]; decide) MP.out.1.2
        rw [show s.qs.length = 0 by rw [HI.out.qs]; rfl] at h1
        exact h1)
      have OQ := Lib.hid (oneQ (c := c') (t := abcT) (K := 4) (N := 3) HI.out.qs HI.out.ss HI.out.M MP.out.2.2.2.1.1)
      obtain ⟨m, hm⟩ : ∃ m, mostG c'.P c'.J = m := ⟨_, rfl⟩
      obtain ⟨l, hl⟩ := oneQ_rd (W := W) (C := C) (m := m) OQ.out HI.out (by have := MP.out; omega) MP.out.2.1.1 MP.out.2.2.2.1 HS.out
      have NX := Lib.hid (show ∀ e w', RetC3 B0 wr col1 i c' W C 3 1 (advS c' 0 0 (subC c' abcT 4 3 0 s)) (advL W 0 0 (subC c' abcT 4 3 0 s)) e w' → ∃ a n cc s1, e = .returned (.tuple #[.int .i64 3, .int .i64 1, .slice a n cc]) ∧ RW w c' W C i B0 p s1 w' ∧ RdI c' W C l 0 m s1 from fun e w' h => by
        obtain ⟨col2, iq2, a, cc, rfl, h1, h2, h3, h4⟩ := h
        exact ⟨a, _, cc, _, rfl, RW.step hC1 hK1 h91 hB1 hw1 hw2 h1 h2, hl⟩)
      have HM := Lib.hid hm
      clear hC1 hK1 h91 hB1 hw1 hw2 hl hm OQ HI hR R5
      go_wp2_with fail
      with_reducible refine CS.out.mono ?_
      intro e w6 hret
      obtain ⟨a, n, cc, s1, rfl, h1, h2⟩ := NX.out e w6 hret
      have R6 := Lib.hid h1
      have I6 := Lib.hid h2
      clear hret h1 h2 CS NX f2 gle
      go_upto_region 16 with fail
      obtain ⟨lb, hlb⟩ : ∃ b, w6.heap.size = b := ⟨_, rfl⟩
      have R7 := Lib.hid (RL.make (ty := 59) R6.out hlb)
      try rw [hlb]
      show Code.wp _ _ _ _ (w6.alloc (.cells (lstA fun _ => 0) 59))
      generalize w6.alloc (.cells (lstA fun _ => 0) 59) = w7 at *
      clear hlb R6
      have WM := Lib.hid (fun tr d => (show waitV c'.F c'.P c'.J tr d ≤ m from by rw [← HM.out]; exact wait_most _ _ _ _ _))
      have MB := Lib.hid (show 0 ≤ m ∧ m ≤ 2000 from by rw [← HM.out]; exact mostG_bd _ _)
      go_wp2_with fail
      go_loopw [11, 13, 14, 15, 16, 17, 18, 19, 20] (fun nv iv _ _ _ _ _ _ _ wr => ∃ ii : Nat, ii ≤ dn ∧ iv = .int .i64 ii ∧ ∃ nn : Nat, nv = .int .i64 nn ∧ ∃ f s, Hid (RL w c' W C i B0 p lb 59 f s wr ∧ RdI c' W C l ii m s ∧ (0 < ii → nn = l.length ∧ ∀ k, k < l.length → f (l.getD k 0) = (((shOf s 0 (l.getD k 0)).tu % C : Nat) : Int)))) (fun _ iv _ _ _ _ _ _ _ _ => dn - (intOf iv).toNat)
      case atStart => exact ⟨0, by omega, rfl, 0, rfl, fun _ => 0, s1, Lib.hid ⟨R7.out, I6.out, fun h => absurd h (by omega)⟩⟩
      case round =>
        clear R7 I6
        obtain ⟨ii, hii, rfl, nn, rfl, f, s2, hR⟩ := hrel
        rename World => wq
        by_cases hlt2 : ii < dn
        · obtain ⟨col2, iq2, hC2, hRP⟩ := hR.out.1.open
          have C2 := Lib.hid hC2
          have RI := Lib.hid hR.out.2.1
          have HF := Lib.hid hR.out.2.2
          have RLq := Lib.hid hRP
          have hK2 := hRP.1
          obtain ⟨tn, htn⟩ : ∃ t, s2.now = t := ⟨_, rfl⟩
          have HTN := Lib.hid htn
          have tb : 0 ≤ tn ∧ tn ≤ 1000000 := by rw [← htn]; exact hC2.g.nw0
          obtain ⟨tm, htm⟩ : ∃ t, tn + m = t := ⟨_, rfl⟩
          have HTM := Lib.hid htm
          have eadd : IntKind.i64.wrap (tn + m) = tm := by have := MB.out; rw [IntKind.wrap_i64]; omega
          have CNow := Lib.hid (fun w' (hb : Below wq.heap.size wq w') => (show Calls Tryz.prog 13 #[.pointer (some ⟨i.x, 0, none⟩)] w' fun e w'' => e = .returned (.int .i64 tn) ∧ w' = w'' from htn ▸ hNow_any w' (C2.out.below hb)))
          have CMo := Lib.hid (fun w' => (show Calls Tryz.prog 28 #[.agg #[.slice c'.wa c'.wn c'.wc, .slice c'.ka c'.kn c'.kc, .int .i64 c'.W, .int .i64 c'.C, .int .i64 c'.S, .int .i64 c'.B, .int .i64 c'.L, .int .i64 c'.H, .int .i64 c'.F, .int .i64 c'.P, .int .i64 c'.J, .int .i64 c'.N]] w' fun e w'' => e = .returned (.int .i64 m) ∧ Below w'.heap.size w' w'' from HM.out ▸ mostG_any _ _ _ _ _ _ _ _ _ _ _ _ w'))
          have S0 := Lib.hid (show Below wq.heap.size wq wq.drew ∧ wq.drew.cell? ⟨p, 0, none⟩ = some (.slice c'.wa c'.wn c'.wc) ∧ wq.drew.cell? ⟨p, 1, none⟩ = some (.slice c'.ka c'.kn c'.kc) ∧ wq.drew.cell? ⟨p, 2, none⟩ = some (.int .i64 c'.W) ∧ wq.drew.cell? ⟨p, 3, none⟩ = some (.int .i64 c'.C) ∧ wq.drew.cell? ⟨p, 4, none⟩ = some (.int .i64 c'.S) ∧ wq.drew.cell? ⟨p, 5, none⟩ = some (.int .i64 c'.B) ∧ wq.drew.cell? ⟨p, 6, none⟩ = some (.int .i64 c'.L) ∧ wq.drew.cell? ⟨p, 7, none⟩ = some (.int .i64 c'.H) ∧ wq.drew.cell? ⟨p, 8, none⟩ = some (.int .i64 c'.F) ∧ wq.drew.cell? ⟨p, 9, none⟩ = some (.int .i64 c'.P) ∧ wq.drew.cell? ⟨p, 10, none⟩ = some (.int .i64 c'.J) ∧ wq.drew.cell? ⟨p, 11, none⟩ = some (.int .i64 c'.N) from ⟨(Below.refl _ _).drew, cfg_cells hK2⟩)
          clear hC2 hK2 hRP htn htm hR tb
          go_upto_region 19 with fail
          go_region_held3 (fun w' => Below wq.heap.size wq w' ∧ w'.cell? ⟨p, 0, none⟩ = some (.slice c'.wa c'.wn c'.wc) ∧ w'.cell? ⟨p, 1, none⟩ = some (.slice c'.ka c'.kn c'.kc) ∧ w'.cell? ⟨p, 2, none⟩ = some (.int .i64 c'.W) ∧ w'.cell? ⟨p, 3, none⟩ = some (.int .i64 c'.C) ∧ w'.cell? ⟨p, 4, none⟩ = some (.int .i64 c'.S) ∧ w'.cell? ⟨p, 5, none⟩ = some (.int .i64 c'.B) ∧ w'.cell? ⟨p, 6, none⟩ = some (.int .i64 c'.L) ∧ w'.cell? ⟨p, 7, none⟩ = some (.int .i64 c'.H) ∧ w'.cell? ⟨p, 8, none⟩ = some (.int .i64 c'.F) ∧ w'.cell? ⟨p, 9, none⟩ = some (.int .i64 c'.P) ∧ w'.cell? ⟨p, 10, none⟩ = some (.int .i64 c'.J) ∧ w'.cell? ⟨p, 11, none⟩ = some (.int .i64 c'.N))
            (first | assumption | exact S0.out | exact rc_carry (by assumption) (by assumption))
            (first
              | (go_at_call 13; refine (CNow.out _ (And.left (by assumption))).mono ?_; rintro e w' ⟨rfl, rfl⟩)
              | (go_at_call 28; refine (CMo.out _).mono ?_; rintro e w8 ⟨rfl, hb8⟩))
          clear S0 CNow CMo
          rename_i T8
          have hb8' : Below wq.heap.size wq w8 := T8.1
          clear T8
          have C8 := Lib.hid (C2.out.below hb8')
          have R8 := Lib.hid (RLq.out.below hb8')
          clear hb8 hb8' C2 RLq
          by_cases hge : 1000 ≤ tm
          · have gge : decide (tm ≥ 1000) = true := decide_eq_true hge
            have B8 := Lib.hid (show Below w.heap.size w w8 from R8.out.2.2.1)
            go_wp2_with fail
            refine (FIN.out _ B8.out).mono ?_
            rintro e w4 ⟨rfl, hb4⟩
            have B4 := Lib.hid hb4
            clear hb4
            go_wp2_with fail
            go_ret
            exact ⟨rfl, B4.out⟩
          have gge : decide (tm ≥ 1000) = false := decide_eq_false hge
          obtain ⟨dv, hdv⟩ : ∃ d, ds.getD ii 0 = d := ⟨_, rfl⟩
          have DC := Lib.hid (show ∃ b o, da = some ⟨b, o, none⟩ ∧ w8.cell? ⟨b, o + ii, none⟩ = some (.int .i64 dv) from by
            obtain ⟨b, o, h1, h2⟩ := (HD.out.below R8.out.2.2.1).at (by omega)
            exact ⟨b, o, h1, by rw [← hdv]; exact h2 ii hlt2⟩)
          have HMS := Lib.hid (show 0 ≤ s2.now ∧ s2.now + m ≤ 1000000 from by have := HTM.out; have := HTN.out; have := RI.out.ok.nw; omega)
          have CW := Lib.hid (gWake_any (3 + 24 * ii) dv w8 C8.out RI.out.ok (by omega) (by have := H20.out; omega) MP.out.2.1 RI.out.sn.symm RI.out.n1.2)
          have RD := Lib.hid (rdW_of (draw := dv) RI.out MP.out.2.1 MP.out.2.2.2.2.2 WM.out HMS.out)
          obtain ⟨r, hr⟩ : ∃ r, wakeTo c' W C dv s2 s2.ss.n = r := ⟨_, rfl⟩
          rw [hr] at CW RD
          obtain ⟨lw, hlw⟩ : ∃ z, l.length = z := ⟨_, rfl⟩
          have HLW := Lib.hid hlw
          have NX := Lib.hid (show ∀ e w', RetC B0 w8 col2 i c' W C r.1 r.2 e w' → ∃ a cc, e = .returned (.slice a lw cc) ∧ RL w c' W C i B0 p lb 59 f r.1 w' ∧ (0 < lw → ∃ g, a = some ⟨g, 0, none⟩ ∧ LetR w' w8.heap.size g cc r.2) from fun e w' h => by
            obtain ⟨col3, iq3, a, cc, rfl, h1, h2, h3, h4⟩ := h
            have hn := RD.out.n
            rw [hlw] at hn
            refine ⟨a, cc, by rw [hn], R8.out.step C8.out h1 h2, fun h0 => ?_⟩
            obtain ⟨g, cap, e1, e2, -⟩ := h3.form (by omega)
            injection e1 with e1
            subst e1
            exact ⟨g, rfl, h3, e2⟩)
          obtain ⟨b, o, rfl, hdc⟩ := DC.out
          have HB1 := Lib.hid (show lb < w8.heap.size from (Array.getElem?_eq_some_iff.1 R8.out.2.2.2.2.2.1).1)
          clear hdv hr hlw DC C8 R8
          go_wp2_with fail
          with_reducible refine CW.out.mono ?_
          intro e w9 hret
          obtain ⟨aa, ac, rfl, h1, h2⟩ := NX.out e w9 hret
          have R9 := Lib.hid h1
          have L9 := Lib.hid h2
          clear hret h1 h2 CW NX hdc
          go_upto_region 21 with fail
          go_cut [91] from 84 to 91 (fun v wc => v = .bool false ∧ w9 = wc)
          case first =>
            rcases Nat.eq_zero_or_pos ii with h0 | h0
            · subst h0
              go_wp2_with fail
              go_meet
              exact ⟨rfl, rfl⟩
            · have hgt : decide ((ii : Int) > 0) = true := decide_eq_true (by omega)
              have hgt2 : decide (0 < ii) = true := decide_eq_true h0
              have hne : ((lw : Int) != (nn : Int)) = false := by rw [(HF.out h0).1, HLW.out]; simp
              go_wp2_with fail
              go_meet
              exact ⟨rfl, rfl⟩
          case rest =>
            obtain ⟨rfl, rfl⟩ := hcut
            clear gge hge eadd
            go_wp2_with fail
            go_loopw [15, 16, 17, 18, 19] (fun kv _ _ _ _ wx => ∃ k : Nat, k ≤ lw ∧ kv = .int .i64 k ∧ ∃ f', Hid (RL w c' W C i B0 p lb 59 f' r.1 wx ∧ (0 < lw → ∃ g, aa = some ⟨g, 0, none⟩ ∧ LetR wx w8.heap.size g ac r.2) ∧ (∀ k', k' < k → f' (l.getD k' 0) = (((shOf r.1 0 (l.getD k' 0)).tu % C : Nat) : Int)) ∧ ∀ k', k ≤ k' → k' < lw → f' (l.getD k' 0) = f (l.getD k' 0))) (fun kv _ _ _ _ _ => lw - (intOf kv).toNat)
            case atStart => exact ⟨0, by omega, rfl, f, Lib.hid ⟨R9.out, L9.out, fun k' h => by omega, fun k' _ _ => rfl⟩⟩
            case round =>
              obtain ⟨k, hk3, rfl, f3, hR3⟩ := hrel
              clear R9 L9
              rename World => wx
              by_cases hlt3 : k < lw
              · have R3 := Lib.hid hR3.out.1
                have F3 := Lib.hid hR3.out.2.2
                obtain ⟨g, rfl, hL3⟩ := hR3.out.2.1 (by omega)
                have L3 := Lib.hid hL3
                obtain ⟨hshb, ep, q, hv⟩ := RD.out.v k (by rw [HLW.out]; exact hlt3)
                obtain ⟨sh, hsh⟩ : ∃ z, l.getD k 0 = z := ⟨_, rfl⟩
                rw [hsh] at hv hshb
                have HSH := Lib.hid hsh
                obtain ⟨tu, htu⟩ : ∃ z, (shOf r.1 0 sh).tu = z := ⟨_, rfl⟩
                rw [htu] at hv
                have HTU := Lib.hid htu
                obtain ⟨x, hxs, hxv⟩ := askG_form c' 0 0 sh ep q
                obtain ⟨tow, hto⟩ : ∃ z, askWk W C sh tu = z := ⟨_, rfl⟩
                have HTO := Lib.hid hto
                rw [hto, hxv] at hv
                obtain ⟨kc0, kc1⟩ := hL3.cells hv
                dsimp only at kc0 kc1
                have HV := Lib.hid hv
                have HRN := Lib.hid (show r.2.length = lw from by rw [RD.out.n, HLW.out])
                have tA := taAskAsk x
                have HSB := Lib.hid hshb
                have HXS := Lib.hid hxs
                clear hsh htu hto hxv hv hL3 hR3 hshb hxs
                go_upto_region 28 with fail
                obtain ⟨qa, hqa⟩ : ∃ q, wx.heap.size = q := ⟨_, rfl⟩
                have hbA := below_one wx (.cells (askA x) 73)
                have KA := Lib.hid (show (wx.alloc (.cells (askA x) 73)).cell? ⟨qa, 2, none⟩ = some (.int .i64 (sh : Int)) from by
                  rw [← hqa, ← HXS.out]
                  exact (cell_alloc (w := wx) rfl).trans rfl)
                have RA := Lib.hid (R3.out.below hbA)
                have LA := Lib.hid (L3.out.below hbA)
                show Code.wp _ _ _ _ (wx.alloc (.cells (askA x) 73))
                try rw [hqa]
                generalize wx.alloc (.cells (askA x) 73) = wy at *
                clear hbA hqa R3 L3 kc0 kc1 tA
                obtain ⟨n1, hn1⟩ : ∃ n, c'.kn + 1 = n := ⟨_, rfl⟩
                have HN1 := Lib.hid hn1
                have hsn : sh < n1 := by rw [← hn1]; exact HSB.out
                have HBY := Lib.hid (fun w' (hb : Below wy.heap.size wy w') => (show Below w.heap.size w w' from by
                  obtain ⟨_, _, _, hRP⟩ := RA.out.open
                  exact hRP.2.2.1.trans (hb.mono hRP.2.2.1.size)))
                have CSh := Lib.hid (fun w' (hb : Below wy.heap.size wy w') => (show Calls Tryz.prog 24 #[.agg #[.slice c'.wa c'.wn c'.wc, .slice c'.ka c'.kn c'.kc, .int .i64 c'.W, .int .i64 c'.C, .int .i64 c'.S, .int .i64 c'.B, .int .i64 c'.L, .int .i64 c'.H, .int .i64 c'.F, .int .i64 c'.P, .int .i64 c'.J, .int .i64 c'.N]] w' fun e w'' => e = .returned (.int .i64 (n1 : Int)) ∧ Below w'.heap.size w' w'' from by
                  rw [← hn1]; exact shards_any c' w' (OKC.out.below (HBY.out w' hb)) HM4.out))
                have hK := RA.out.rw
                have S0 := Lib.hid (show Below wy.heap.size wy wy.drew ∧ wy.drew.cell? ⟨qa, 2, none⟩ = some (.int .i64 (sh : Int)) ∧ wy.drew.cell? ⟨p, 0, none⟩ = some (.slice c'.wa c'.wn c'.wc) ∧ wy.drew.cell? ⟨p, 1, none⟩ = some (.slice c'.ka c'.kn c'.kc) ∧ wy.drew.cell? ⟨p, 2, none⟩ = some (.int .i64 c'.W) ∧ wy.drew.cell? ⟨p, 3, none⟩ = some (.int .i64 c'.C) ∧ wy.drew.cell? ⟨p, 4, none⟩ = some (.int .i64 c'.S) ∧ wy.drew.cell? ⟨p, 5, none⟩ = some (.int .i64 c'.B) ∧ wy.drew.cell? ⟨p, 6, none⟩ = some (.int .i64 c'.L) ∧ wy.drew.cell? ⟨p, 7, none⟩ = some (.int .i64 c'.H) ∧ wy.drew.cell? ⟨p, 8, none⟩ = some (.int .i64 c'.F) ∧ wy.drew.cell? ⟨p, 9, none⟩ = some (.int .i64 c'.P) ∧ wy.drew.cell? ⟨p, 10, none⟩ = some (.int .i64 c'.J) ∧ wy.drew.cell? ⟨p, 11, none⟩ = some (.int .i64 c'.N) from by
                  obtain ⟨_, _, _, hRP⟩ := RA.out.open
                  exact ⟨(Below.refl _ _).drew, KA.out, cfg_cells hRP.1⟩)
                have gn1 : decide ((sh : Int) < 0) = false := decide_eq_false (by omega)
                have gn2 : decide ((sh : Int) ≥ (n1 : Int)) = false := decide_eq_false (by omega)
                clear hn1 hK
                go_region_held3 (fun w' => Below wy.heap.size wy w' ∧ w'.cell? ⟨qa, 2, none⟩ = some (.int .i64 (sh : Int)) ∧ w'.cell? ⟨p, 0, none⟩ = some (.slice c'.wa c'.wn c'.wc) ∧ w'.cell? ⟨p, 1, none⟩ = some (.slice c'.ka c'.kn c'.kc) ∧ w'.cell? ⟨p, 2, none⟩ = some (.int .i64 c'.W) ∧ w'.cell? ⟨p, 3, none⟩ = some (.int .i64 c'.C) ∧ w'.cell? ⟨p, 4, none⟩ = some (.int .i64 c'.S) ∧ w'.cell? ⟨p, 5, none⟩ = some (.int .i64 c'.B) ∧ w'.cell? ⟨p, 6, none⟩ = some (.int .i64 c'.L) ∧ w'.cell? ⟨p, 7, none⟩ = some (.int .i64 c'.H) ∧ w'.cell? ⟨p, 8, none⟩ = some (.int .i64 c'.F) ∧ w'.cell? ⟨p, 9, none⟩ = some (.int .i64 c'.P) ∧ w'.cell? ⟨p, 10, none⟩ = some (.int .i64 c'.J) ∧ w'.cell? ⟨p, 11, none⟩ = some (.int .i64 c'.N))
                  (first | assumption | exact S0.out | exact rq_carry (by assumption) (by assumption))
                  (first
                    | (go_at_call 24; refine (CSh.out _ (And.left (by assumption))).mono ?_; rintro e w10 ⟨rfl, hb10⟩))
                rename_i T10
                have B10 := Lib.hid (show Below wy.heap.size wy w10 from T10.1)
                obtain ⟨-, q2, f0, f1, f2, f3c, f4, f5, f6, f7, f8, f9, f10, f11⟩ := T10
                have R10 := Lib.hid (RA.out.below B10.out)
                have L10 := Lib.hid (LA.out.below B10.out)
                have K10 := Lib.hid ((B10.out.cell (p := ⟨qa, 2, none⟩) (lt_of_cell KA.out)).trans KA.out)
                have CC := Lib.hid (copies_in c' sh W C w10 (OKC.out.below (HBY.out w10 B10.out)) HM4.out HSB.out HW.out HC.out)
                unfold RetZ at CC
                rw [Pl.cop_len] at CC
                clear hb10 S0 CSh gn1 gn2 B10 RA LA KA HBY
                go_wp2_with fail
                refine CC.out.mono ?_
                rintro e w11 ⟨a7, c7, rfl, ho7, hb11⟩
                obtain ⟨g7, rfl⟩ : ∃ g7, a7 = some ⟨g7, 0, none⟩ := by
                  obtain ⟨g, cap, e, -⟩ := ho7.form MP.out.2.1.1
                  injection e with e
                  exact ⟨g, e⟩
                have R11 := Lib.hid (R10.out.below hb11)
                have L11 := Lib.hid (L10.out.below hb11)
                have K11 := Lib.hid ((hb11.cell (p := ⟨qa, 2, none⟩) (lt_of_cell K10.out)).trans K10.out)
                have Z11 := Lib.hid (show ∀ t, t < C → w11.cell? ⟨g7, t, none⟩ = some (.int .i64 ((Pl.cop W C sh).getD t 0)) from fun t ht => own_cells24 ho7 t (numsV_getD24 _ _ (by rw [Pl.cop_len]; exact ht)))
                obtain ⟨rr, hrr⟩ : ∃ z, tu % C = z := ⟨_, rfl⟩
                have HRR := Lib.hid hrr
                have hrC : rr < C := by rw [← hrr]; exact Nat.mod_lt _ MP.out.2.1.1
                have HTW := Lib.hid (show tow = (Pl.cop W C sh).getD rr 0 from by rw [← HTO.out]; unfold askWk; rw [hrr])
                clear ho7 hb11 CC R10 L10 K10 q2 f0 f1 f2 f3c f4 f5 f6 f7 f8 f9 f10 f11 hrr
                go_wp2_with fail
                go_loopw [19] (fun tv wz => ∃ t : Nat, t ≤ rr ∧ tv = .int .i64 t ∧ Hid (Below w11.heap.size w11 wz)) (fun tv _ => rr + 1 - (intOf tv).toNat)
                case atStart => exact ⟨0, by omega, rfl, Lib.hid (Below.refl _ _)⟩
                case round =>
                  obtain ⟨t, htr, rfl, hB⟩ := hrel
                  rename World => wz
                  obtain ⟨ct, hct⟩ : ∃ z, (Pl.cop W C sh).getD t 0 = z := ⟨_, rfl⟩
                  have htC : t < C := by omega
                  have kz : wz.cell? ⟨g7, t, none⟩ = some (.int .i64 ct) := by
                    have h := Z11.out t htC
                    rw [hct] at h
                    exact (hB.out.cell (p := ⟨g7, t, none⟩) (lt_of_cell h)).trans h
                  have kl : wz.cell? ⟨g, k * 2, none⟩ = some (.int .i64 tow) := ((L11.out.below hB.out).cells HV.out).1
                  have etk : IntKind.i64.wrap ((t : Int) + 1) = ((t + 1 : Nat) : Int) := by have := MP.out; rw [IntKind.wrap_i64]; omega
                  by_cases hlt4 : t < rr
                  · have hne : (ct != tow) = true := by
                      have h1 : ct ≠ tow := fun e => by
                        have h2 := cop_inj W C sh t rr MP.out.2.2.1 htC hrC (by rw [hct, ← HTW.out, e])
                        omega
                      simp [h1]
                    have hcne : ct ≠ tow := by simpa using hne
                    clear hct
                    go_upto_region 32 with fail
                    go_quiet (fail)
                    go_wp2_with fail
                    go_roundw
                    case rel => exact ⟨t + 1, by omega, by first | rfl | simp [etk], Lib.hid (hB.out.trans ((below_drewN wz _).mono hB.out.size))⟩
                    case measure => simp [intOf]; omega
                  · obtain rfl : rr = t := by omega
                    have hceq : ct = tow := by rw [← hct, HTW.out]
                    subst hceq
                    clear hct
                    go_upto_region 32 with fail
                    go_quiet (fail)
                    generalize hwv : wz.drewN _ = wv at *
                    have hbv : Below w11.heap.size w11 wv := hwv ▸ hB.out.trans ((below_drewN wz _).mono hB.out.size)
                    have RV := Lib.hid (R11.out.below hbv)
                    have LV := Lib.hid (L11.out.below hbv)
                    have kv2 : wv.cell? ⟨qa, 2, none⟩ = some (.int .i64 (sh : Int)) := (hbv.cell (p := ⟨qa, 2, none⟩) (lt_of_cell K11.out)).trans K11.out
                    clear hwv hbv hB kz kl etk
                    have hsh6 : sh < 6 := by have := MP.out.2.2.2.2.2; have := HSB.out; omega
                    obtain ⟨kl1, kl2⟩ := RV.out.cell sh hsh6
                    have hrne : ((rr : Int) == (C : Int)) = false := by
                      have : (rr : Int) ≠ (C : Int) := by omega
                      simpa using this
                    obtain ⟨ov, hov⟩ : ∃ z, f3 sh = z := ⟨_, rfl⟩
                    rw [hov] at kl1
                    have HOV := Lib.hid (show 0 < ii → wrap64 (ov + 1) = ov + 1 ∧ Int.tmod (ov + 1) (C : Int) = (rr : Int) from fun h0 => by
                      have h1 := (F3.out.2 k (Nat.le_refl _) hlt3)
                      rw [(HF.out h0).2 k (by rw [HLW.out]; exact hlt3), HSH.out, hov] at h1
                      have h2 := RD.out.t h0 k (by rw [HLW.out]; exact hlt3)
                      rw [HSH.out, HTU.out] at h2
                      have h3 := HRR.out
                      rw [h2] at h3
                      have hm1 := Nat.mod_lt (shOf s2 0 sh).tu MP.out.2.1.1
                      have hc3 := MP.out.2.1.2
                      have h4 : ((shOf s2 0 sh).tu % C + 1) % C = rr := by rw [Nat.mod_add_mod]; exact h3
                      refine ⟨IntWalk.wrap64_in _ ⟨by omega, by omega⟩, ?_⟩
                      rw [h1, Int.tmod_eq_emod_of_nonneg (by omega)]
                      exact nextMod h4)
                    go_upto_region 34 with fail
                    go_cut [164] from 145 to 164 (fun v wc => v = .bool false ∧ wv = wc)
                    case first =>
                      rcases Nat.eq_zero_or_pos ii with h0 | h0
                      · subst h0
                        go_wp2_with fail
                        go_meet
                        exact ⟨rfl, rfl⟩
                      · have hgt : decide ((ii : Int) > 0) = true := decide_eq_true (by omega)
                        have hgt2 : decide (0 < ii) = true := decide_eq_true h0
                        obtain ⟨o1, o2⟩ := HOV.out h0
                        have hC0 : decide ((C : Int) = 0) = false := decide_eq_false (by omega)
                        have er : IntKind.i64.wrap (rr : Int) = (rr : Int) := by have := MP.out; rw [IntKind.wrap_i64]; omega
                        go_wp2_with fail
                        go_meet
                        exact ⟨rfl, rfl⟩
                    case rest =>
                      obtain ⟨rfl, rfl⟩ := hcut
                      go_upto_region 26 with fail
                      have RS := Lib.hid (RV.out.set sh hsh6 (rr : Int))
                      have LS := Lib.hid (LV.out.set (b := lb) (o := sh) (v := .int .i64 (rr : Int)) HB1.out)
                      have ek3 : IntKind.i64.wrap ((k : Int) + 1) = ((k + 1 : Nat) : Int) := by
                        have h1 := rd_nodup RI.out
                        have h2 : lw ≤ 1000000 := by
                          rw [← HLW.out]
                          rcases RI.out.act with ⟨-, h3, h4, -, h5⟩ | ⟨-, h3⟩
                          · have h6 := wants_len (s2.qs.getD 0 q0)
                            rw [h3, (RI.out.ok.q 0 h4 h5).1] at h6
                            have := MP.out.2.2.2.2.2; omega
                          · rw [h3]; exact Nat.zero_le _
                        rw [IntKind.wrap_i64]; omega
                      have RR := Lib.hid (show RL w c' W C i B0 p lb 59 (fun j => if j = sh then (rr : Int) else f3 j) r.1 (wv.setCell ⟨lb, sh, none⟩ (.int .i64 (rr : Int))) ∧ (0 < lw → ∃ g', (some ⟨g, 0, none⟩ : Option Addr) = some ⟨g', 0, none⟩ ∧ LetR (wv.setCell ⟨lb, sh, none⟩ (.int .i64 (rr : Int))) w8.heap.size g' ac r.2) ∧ (∀ k', k' < k + 1 → (if l.getD k' 0 = sh then (rr : Int) else f3 (l.getD k' 0)) = (((shOf r.1 0 (l.getD k' 0)).tu % C : Nat) : Int)) ∧ ∀ k', k + 1 ≤ k' → k' < lw → (if l.getD k' 0 = sh then (rr : Int) else f3 (l.getD k' 0)) = f (l.getD k' 0) from by
                        refine ⟨RS.out, fun _ => ⟨g, rfl, LS.out⟩, fun k' h => ?_, fun k' h1 h2 => ?_⟩
                        · by_cases e : l.getD k' 0 = sh
                          · rw [if_pos e, e, HTU.out, HRR.out]
                          · rw [if_neg e]
                            refine F3.out.1 k' ?_
                            by_cases e2 : k' = k
                            · exact absurd (by rw [e2]; exact HSH.out) e
                            · omega
                        · have e : l.getD k' 0 ≠ sh := fun e => by
                            have := getD_inj (rd_nodup RI.out) (by rw [HLW.out]; exact h2) (by rw [HLW.out]; exact hlt3) (e.trans HSH.out.symm)
                            omega
                          rw [if_neg e]
                          exact F3.out.2 k' (by omega) h2)
                      clear RS LS kl1 kl2 kv2
                      go_wp2_with fail
                      go_roundw
                      case rel => exact ⟨k + 1, by omega, by first | rfl | simp [ek3], _, RR⟩
                      case measure => simp [intOf]; omega
              · obtain rfl : lw = k := by omega
                have R3 := Lib.hid hR3.out.1
                have F3 := Lib.hid hR3.out.2.2.1
                clear hR3
                go_wp2_with fail
                go_loopw [20] (fun tv wy => ∃ t : Nat, (t : Int) ≤ m ∧ tv = .int .i64 t ∧ Hid (RL w c' W C i B0 p lb 59 f3 { r.1 with now := s2.now + (t : Int) } wy)) (fun tv _ => m.toNat - (intOf tv).toNat)
                case atStart => exact ⟨0, MB.out.1, rfl, Lib.hid (by
                  have h := R3.out
                  have e : s2.now + ((0 : Nat) : Int) = r.1.now := by rw [RD.out.nw]; simp
                  rw [e]; exact h)⟩
                case round =>
                  obtain ⟨t, htm, rfl, hRt⟩ := hrel
                  rename World => wy
                  obtain ⟨col5, iq5, hC5, hRP5⟩ := hRt.out.open
                  obtain ⟨f0, f1, f2, f3c, f4, f5, f6, f7, f8, f9, f10, f11⟩ := cfg_cells hRP5.1
                  have C5 := Lib.hid hC5
                  have P5 := Lib.hid hRP5
                  have CMo := Lib.hid (fun w' => (show Calls Tryz.prog 28 #[.agg #[.slice c'.wa c'.wn c'.wc, .slice c'.ka c'.kn c'.kc, .int .i64 c'.W, .int .i64 c'.C, .int .i64 c'.S, .int .i64 c'.B, .int .i64 c'.L, .int .i64 c'.H, .int .i64 c'.F, .int .i64 c'.P, .int .i64 c'.J, .int .i64 c'.N]] w' fun e w'' => e = .returned (.int .i64 m) ∧ Below w'.heap.size w' w'' from HM.out ▸ mostG_any _ _ _ _ _ _ _ _ _ _ _ _ w'))
                  have etk : IntKind.i64.wrap ((t : Int) + 1) = ((t + 1 : Nat) : Int) := by have := MB.out; rw [IntKind.wrap_i64]; omega
                  clear hC5 hRP5
                  by_cases hlt5 : (t : Int) < m
                  · have gtm : decide ((t : Int) < m) = true := decide_eq_true hlt5
                    go_wp2_with fail
                    refine (CMo.out _).mono ?_
                    rintro e w12 ⟨rfl, hb12⟩
                    have CTk := Lib.hid (hTick_any w12 (C5.out.below hb12) (by have := HMS.out; show s2.now + (t : Int) < 1000000; omega))
                    have NX := Lib.hid (show ∀ w', CoX B0 w' col5 i c' W C { ({ r.1 with now := s2.now + (t : Int) } : Cs) with now := s2.now + (t : Int) + 1 } iq5 ∧ ExtG w12 col5 w' col5 → RL w c' W C i B0 p lb 59 f3 { r.1 with now := s2.now + ((t + 1 : Nat) : Int) } w' from fun w' h => by
                      rw [show s2.now + ((t + 1 : Nat) : Int) = s2.now + (t : Int) + 1 by omega]
                      exact (P5.out.below hb12).step (C5.out.below hb12) h.1 h.2)
                    clear hb12 f0 f1 f2 f3c f4 f5 f6 f7 f8 f9 f10 f11
                    go_wp2_with fail
                    refine CTk.out.mono ?_
                    rintro e w13 ⟨rfl, h13⟩
                    have RR := Lib.hid (NX.out w13 h13)
                    clear h13 CTk NX
                    go_wp2_with fail
                    go_roundw
                    case rel => exact ⟨t + 1, by omega, by first | rfl | simp [etk], RR⟩
                    case measure => simp [intOf]; omega
                  · have gtm : decide ((t : Int) < m) = false := decide_eq_false hlt5
                    have htm2 : (t : Int) = m := by omega
                    have eik : IntKind.i64.wrap ((ii : Int) + 1) = ((ii + 1 : Nat) : Int) := by have := H20.out; rw [IntKind.wrap_i64]; omega
                    go_wp2_with fail
                    refine (CMo.out _).mono ?_
                    rintro e w12 ⟨rfl, hb12⟩
                    have RR := Lib.hid (show RL w c' W C i B0 p lb 59 f3 { r.1 with now := s2.now + m } w12 ∧ RdI c' W C l (ii + 1) m { r.1 with now := s2.now + m } ∧ (0 < ii + 1 → lw = l.length ∧ ∀ k, k < l.length → f3 (l.getD k 0) = (((shOf { r.1 with now := s2.now + m } 0 (l.getD k 0)).tu % C : Nat) : Int)) from by
                      refine ⟨?_, RD.out.nx, fun _ => ⟨HLW.out.symm, fun k hk => F3.out k (by rw [← HLW.out]; exact hk)⟩⟩
                      rw [← htm2]; exact hRt.out.below hb12)
                    clear hb12 f0 f1 f2 f3c f4 f5 f6 f7 f8 f9 f10 f11 htm2
                    go_wp2_with fail
                    go_roundw
                    case rel => exact ⟨ii + 1, by omega, by first | rfl | simp [eik], lw, rfl, f3, _, RR⟩
                    case measure => simp [intOf]; omega
        · obtain rfl : dn = ii := by omega
          have BF := Lib.hid (show Below w.heap.size w wq from by
            obtain ⟨_, _, _, hRP⟩ := hR.out.1.open
            exact hRP.2.2.1)
          clear hR
          go_wp2_with fail
          refine (FIN.out _ BF.out).mono ?_
          rintro e w4 ⟨rfl, hb4⟩
          have B4 := Lib.hid hb4
          clear hb4
          go_wp2_with fail
          go_ret
          exact ⟨rfl, B4.out⟩
open Go.ChangeShapes Go.WideShapes Go.ChangeAt in
theorem coordRounds_walk {H : Type} {enc : TypeId × Value → H} (W : World) (base : Nat) (v0 v1 : Value) (d0 d1 : DataW H) (p0 p1 : List MemPlace)
    (h0 : DataW.Trod enc Tryz.prog W 0 (fun _ => true) true 53 v0 d0 p0) (h1 : DataW.Trod enc Tryz.prog W 0 (fun _ => true) true 54 v1 d1 p1)
    (o0 : Value.okWide Tryz.prog W .any base 53 v0) (o1 : Value.okWide Tryz.prog W .any base 54 v1) :
    Calls Tryz.prog 5 #[v0, v1] W fun e w' => e = .returned (.bool true) ∧ RowKit.Below W.heap.size W w' := by
  obtain ⟨c, rfl, ok, hka⟩ := open_cfg2 o0 h0
  obtain ⟨a, n, cap, zs, rfl, hz, -, h3, h4, -⟩ := open_ints_arg Tryz.underlying54 Tryz.underlying3 (by kernel_rfl) o1 h1
  exact coordRounds_any c a n cap zs W ok hka hz ⟨h3, h4⟩
end Go.Proofs.YtblipdmagfiigaaGreat
