/- texts joined -/
import Derived.WalkKit
import Derived.ProofKit
import Derived.OpenShut
import Derived.Lib.SmallJoins
import Derived.Lib.Hide
import Derived.Deep.Slices
import Derived.OwnWalk
import Derived.Laws.AppendOwnNone
import Derived.Test.YtblipdmagfiigaaGreatChecked
import Derived.WalkLawsBesides
import Derived.Outline
import Derived.Sort.Walk0
import Derived.Laws.RangeAny
import Derived.Lib.DecodeN
import Derived.Deep.QuietTactic
import Derived.BigQuiet
import Derived.SliceStrings
import Derived.Deep.RegionWith
import Derived.Deep.DeepCutAuto
import Derived.Deep.RegionHeld3
import Derived.Lib.OthersKept
import Derived.Maps.OwnSet
import Derived.WalkArith
import Derived.BigRegion
import Derived.Deep.AppendLies
import Derived.Deep.RegionLaw
import Derived.Laws.OwnMore
import Derived.Lib.SliceRun
import Derived.Sort.Grow
import Derived.Laws.AppendOwn
import Derived.Carry
import Derived.Maps.AppendAt
import Derived.WalkSpells
import Derived.StillTailTactics
import Derived.Test.YtblipdmagfiigaaGreatPkZC
namespace Go.Proofs.YtblipdmagfiigaaGreat
open Go.RowKit
set_option linter.unusedVariables false
set_option maxRecDepth 20000
/-- the first of n places where p holds -/
def flF (p : Nat → Bool) : Nat → Option Nat
  | 0 => none
  | n + 1 => match flF p n with
    | some k => some k
    | none => if p n then some n else none
theorem flF_hit {p : Nat → Bool} {k : Nat} (h : flF p k = none) (hp : p k = true) : ∀ n, k < n → flF p n = some k
  | 0, hn => by omega
  | n + 1, hn => by
    unfold flF
    by_cases e : k = n
    · subst e; rw [h]; simp [hp]
    · rw [flF_hit h hp n (by omega)]
theorem flF_miss {p : Nat → Bool} {k : Nat} (h : flF p k = none) (hp : p k = false) : flF p (k + 1) = none := by
  unfold flF; rw [h]; simp [hp]
theorem flF_lt {p : Nat → Bool} : ∀ {n k : Nat}, flF p n = some k → k < n ∧ p k = true
  | 0, k, h => by cases h
  | n + 1, k, h => by
    unfold flF at h
    cases e : flF p n with
    | some k' => rw [e] at h; injection h with h; subst h; have := flF_lt e; exact ⟨by omega, this.2⟩
    | none => rw [e] at h; simp only [] at h; split at h
              · injection h with h; subst h; exact ⟨by omega, by assumption⟩
              · cases h
def ixV : Option Nat → Int
  | some k => (k : Int)
  | none => -1
def liveP (s : Cs) (W C sh : Nat) (k : Nat) : Bool := decide (liveOk s.ls ((Pl.cop W C sh).getD k 0) s.now)
def firstL24 (s : Cs) (W C sh : Nat) : Nat := (flF (liveP s W C sh) C).getD 0
section
variable {B0 : Nat} {w w' : World} {col col' : Nat → Nat} {i : CoI} {c : Cfg} {W C : Nat} {s : Cs} {iq : Nat → QI} {F : Nat → Prop}
theorem livG_carry {w1 a b : World} {B x : Nat} {u0 u1 u2 : Value} (h : Below w1.heap.size w1 a ∧ a.cell? ⟨B, 0, none⟩ = some u0 ∧ a.cell? ⟨x, 13, none⟩ = some u1 ∧ a.cell? ⟨x, 14, none⟩ = some u2) (hb : Below a.heap.size a b) : Below w1.heap.size w1 b ∧ b.cell? ⟨B, 0, none⟩ = some u0 ∧ b.cell? ⟨x, 13, none⟩ = some u1 ∧ b.cell? ⟨x, 14, none⟩ = some u2 :=
  ⟨h.1.trans (hb.mono h.1.size), (hb.cell (p := ⟨B, 0, none⟩) (lt_of_cell h.2.1)).trans h.2.1, (hb.cell (p := ⟨x, 13, none⟩) (lt_of_cell h.2.2.1)).trans h.2.2.1, (hb.cell (p := ⟨x, 14, none⟩) (lt_of_cell h.2.2.2)).trans h.2.2.2⟩
theorem gLive_any (B : Nat) (v : Int) (z : Bool) (w : World) (h : CoX B0 w col i c W C s iq) (hg : GoodL s.ls) (hz : decide (liveOk s.ls v s.now) = z) (hB : w.cell? ⟨B, 0, none⟩ = some (.pointer (some ⟨i.x, 0, none⟩))) : Calls Tryz.prog 96 #[.int .i64 v, .pointer (some ⟨B, 0, none⟩)] w fun e w' => e = .returned (.bool z) ∧ Below w.heap.size w w' := by
  have CL := Lib.hid (fun w' (hb : Below w.heap.size w w') => live_any i.bl v s.now w' (h.below hb).g.L hg)
  rw [hz] at CL
  have S0 := Lib.hid (show Below w.heap.size w w.drew ∧ w.drew.cell? ⟨B, 0, none⟩ = some (.pointer (some ⟨i.x, 0, none⟩)) ∧ w.drew.cell? ⟨i.x, 13, none⟩ = some (.int .i64 s.now) ∧ w.drew.cell? ⟨i.x, 14, none⟩ = some (.pointer (some ⟨i.bl, 0, none⟩)) from ⟨(Below.refl _ _).drew, hB, co_cell h.g.box rfl, co_cell h.g.box rfl⟩)
  clear h hB hg hz
  go_enter Tryz.func96, Tryz.ntmps96
  go_upto_region 1 with fail
  go_region_held3 (fun w' => Below w.heap.size w w' ∧ w'.cell? ⟨B, 0, none⟩ = some (.pointer (some ⟨i.x, 0, none⟩)) ∧ w'.cell? ⟨i.x, 13, none⟩ = some (.int .i64 s.now) ∧ w'.cell? ⟨i.x, 14, none⟩ = some (.pointer (some ⟨i.bl, 0, none⟩)))
    (first | assumption | exact S0.out | exact livG_carry (by assumption) (by assumption))
    (first
      | (go_at_call 97; refine (CL.out _ (And.left (by assumption))).mono ?_; rintro e w2 ⟨rfl, hb2⟩))
  rename_i T5
  have hb := T5.1
  clear T5
  go_wp2_with fail
  go_ret
  exact ⟨rfl, hb⟩
theorem copAt_cell (h : CoX B0 w col i c W C s iq) {sh k : Nat} (hs : sh < c.kn + 1) (hk : k < C) : w.cell? ⟨i.cw sh, k, none⟩ = some (.int .i64 ((Pl.cop W C sh).getD k 0)) := (h.g.cop sh hs).2 k hk
theorem gIdx_any (B sh cap : Nat) (w : World) (h : CoX B0 w col i c W C s iq) (hg : GoodL s.ls) (hsh : sh < c.kn + 1) (hC : C ≤ 3) (hB : w.cell? ⟨B, 0, none⟩ = some (.pointer (some ⟨i.x, 0, none⟩))) : Calls Tryz.prog 95 #[.slice (some ⟨i.cw sh, 0, none⟩) C cap, .func (.func 96) #[] #[.pointer (some ⟨B, 0, none⟩)]] w fun e w' => (e = .returned (.int .i64 (ixV (flF (liveP s W C sh) C)))) ∧ Below w.heap.size w w' := by
  have CX := Lib.hid h
  have HG := Lib.hid hg
  have HB := Lib.hid hB
  have HC := Lib.hid hC
  have HSH := Lib.hid hsh
  clear h hg hB hC hsh
  obtain ⟨p, hp⟩ : ∃ p, liveP s W C sh = p := ⟨_, rfl⟩
  have HP := Lib.hid hp
  rw [hp]
  clear hp
  go_enter Tryz.func95, Tryz.ntmps95
  go_wp2_with fail
  go_loopw [5, 8] (fun _ iv wr => ∃ k : Nat, k ≤ C ∧ iv = .int .i64 k ∧ Hid (flF p k = none ∧ Below w.heap.size w wr)) (fun _ iv _ => C - (intOf iv).toNat)
  case atStart => exact ⟨0, by omega, rfl, Lib.hid ⟨rfl, Below.refl _ _⟩⟩
  case round =>
    obtain ⟨k, hk, rfl, hR⟩ := hrel
    by_cases hlt : k < C
    · have CR := CX.out.below hR.out.2
      have kc := copAt_cell CR HSH.out hlt
      obtain ⟨v, hv⟩ : ∃ v, (Pl.cop W C sh).getD k 0 = v := ⟨_, rfl⟩
      obtain ⟨z, hz⟩ : ∃ z, p k = z := ⟨_, rfl⟩
      have CL := Lib.hid (gLive_any B v z wr CR HG.out (by rw [← hz, ← HP.out, ← hv]; rfl) ((hR.out.2.cell (p := ⟨B, 0, none⟩) (lt_of_cell HB.out)).trans HB.out))
      rw [hv] at kc
      have ek : IntKind.i64.wrap ((k : Int) + 1) = ((k + 1 : Nat) : Int) := by have := HC.out; rw [IntKind.wrap_i64]; omega
      have HZ := Lib.hid hz
      clear CR hv hz
      go_wp2_with fail
      refine CL.out.mono ?_
      rintro e w2 ⟨rfl, hb2⟩
      have B2 := Lib.hid (hR.out.2.trans (hb2.mono hR.out.2.size))
      clear hb2
      cases z with
      | true =>
        have FIN := Lib.hid (show ixV (flF p C) = (k : Int) from by rw [flF_hit hR.out.1 HZ.out C hlt]; rfl)
        go_wp2_with fail
        go_ret
        exact ⟨by rw [FIN.out]; rfl, B2.out⟩
      | false =>
        have RR := Lib.hid (show flF p (k + 1) = none ∧ Below w.heap.size w w2 from ⟨flF_miss hR.out.1 HZ.out, B2.out⟩)
        go_wp2_with fail
        go_roundw
        case rel => exact ⟨k + 1, by omega, by first | rfl | simp [ek], RR⟩
        case measure => simp [intOf]; omega
    · obtain rfl : k = C := by omega
      have FIN := Lib.hid (show ixV (flF p k) = -1 from by rw [hR.out.1]; rfl)
      go_wp2_with fail
      go_ret
      exact ⟨by rw [FIN.out]; rfl, hR.out.2⟩
theorem gFirstLive_any (sh : Nat) (w : World) (h : CoX B0 w col i c W C s iq) (hg : GoodL s.ls) (hsh : sh < c.kn + 1) (hC : C ≤ 3) : Calls Tryz.prog 69 #[.pointer (some ⟨i.x, 0, none⟩), .int .i64 (sh : Int)] w fun e w' => e = .returned (.int .i64 (firstL24 s W C sh : Int)) ∧ Below w.heap.size w w' := by
  have hb1 := below_one w (.cells #[.pointer (some ⟨i.x, 0, none⟩)] 31)
  have C1 := h.below hb1
  obtain ⟨B, hB⟩ : ∃ B, w.heap.size = B := ⟨_, rfl⟩
  have kB : (w.alloc (.cells #[.pointer (some ⟨i.x, 0, none⟩)] 31)).cell? ⟨B, 0, none⟩ = some (.pointer (some ⟨i.x, 0, none⟩)) := by rw [← hB, cell_alloc rfl]; rfl
  have CI := Lib.hid (gIdx_any B sh (i.c2 sh) _ C1 hg hsh hC kB)
  have x12 : (w.alloc (.cells #[.pointer (some ⟨i.x, 0, none⟩)] 31)).cell? ⟨i.x, 12, none⟩ = some (.slice (some ⟨i.ca, 0, none⟩) (c.kn + 1) i.cc) := co_cell C1.g.box rfl
  have r0 := (C1.g.cop sh hsh).1
  have BB := Lib.hid hb1
  have HSH := Lib.hid hsh
  obtain ⟨o, ho⟩ : ∃ o, flF (liveP s W C sh) C = o := ⟨_, rfl⟩
  rw [ho] at CI
  have HO := Lib.hid (show firstL24 s W C sh = o.getD 0 from by unfold firstL24; rw [ho])
  rw [HO.out]
  clear h hb1 C1 hg ho hC
  obtain ⟨r, hr⟩ : ∃ r, ixV o = r := ⟨_, rfl⟩
  rw [hr] at CI
  cases o with
  | none =>
    have hr2 : r = -1 := hr.symm
    subst hr2
    clear hr
    go_enter Tryz.func69, Tryz.ntmps69
    go_wp2_with fail
    refine CI.out.mono ?_
    rintro e w2 ⟨rfl, hb2⟩
    go_wp2_with fail
    go_ret
    exact ⟨rfl, BB.out.trans (hb2.mono BB.out.size)⟩
  | some k =>
    have hr2 : r = (k : Int) := hr.symm
    subst hr2
    clear hr
    have hm : max (k : Int) 0 = (k : Int) := by omega
    go_enter Tryz.func69, Tryz.ntmps69
    go_wp2_with fail
    refine CI.out.mono ?_
    rintro e w2 ⟨rfl, hb2⟩
    go_wp2_with fail
    all_goals
      go_ret
      exact ⟨by first | rfl | (simp; done) | (simp; omega), BB.out.trans (hb2.mono BB.out.size)⟩
end
end Go.Proofs.YtblipdmagfiigaaGreat
namespace Go.Proofs.YtblipdmagfiigaaGreat
open Go.RowKit
set_option linter.unusedVariables false
set_option maxRecDepth 20000
theorem mseq_g (s v : Int) {b : Nat} {most : Int} {T : List KV} {P : List SM} {S : Nat → Prop} (w : World) (h : MAtP w b most T P S) (hl : P.length ≤ 1000) (hv : seqS P s = v) :
    Calls Tryz.prog 99 #[.pointer (some ⟨b, 0, none⟩), .int .i64 s] w fun e w' => e = .returned (.int .i64 v) ∧ w = w' := by
  obtain ⟨L, m, e⟩ := h
  subst e
  rw [List.length_map] at hl
  have hs : seqS (L.map spl) s = seqS L s := by
    unfold seqS
    rw [List.length_map, getD_spl]; rfl
  rw [hs] at hv
  exact mseq_any s v b w m hl hv
theorem mafter_g (s : Int) (y : KV) (z : Bool) {b : Nat} {most : Int} {T : List KV} {P : List SM} {S : Nat → Prop} (w : World) (h : MAtP w b most T P S) (hl : P.length ≤ 1000) (hv : lastS24 P s = (y, z)) :
    Calls Tryz.prog 98 #[.pointer (some ⟨b, 0, none⟩), .int .i64 s] w fun e w' => e = .returned (.tuple #[.agg #[.int .i64 y.1, .string y.2], .bool z]) ∧ Below w.heap.size w w' := by
  obtain ⟨L, m, e⟩ := h
  subst e
  rw [List.length_map] at hl
  have hs : lastS24 (L.map spl) s = lastS24 L s := by
    unfold lastS24
    rw [List.length_map, getD_spl]; rfl
  rw [hs] at hv
  exact mafter_any24 s y z b w m hl hv
theorem askG_carry {w1 a b : World} {qb x p : Nat} {u0 u1 u2 u3 u4 u5 : Value} (h : Below w1.heap.size w1 a ∧ a.cell? ⟨qb, 7, none⟩ = some u0 ∧ a.cell? ⟨qb, 1, none⟩ = some u1 ∧ a.cell? ⟨qb, 2, none⟩ = some u2 ∧ a.cell? ⟨x, 5, none⟩ = some u3 ∧ a.cell? ⟨p, 0, none⟩ = some u4 ∧ a.cell? ⟨p, 1, none⟩ = some u5) (hb : Below a.heap.size a b) : Below w1.heap.size w1 b ∧ b.cell? ⟨qb, 7, none⟩ = some u0 ∧ b.cell? ⟨qb, 1, none⟩ = some u1 ∧ b.cell? ⟨qb, 2, none⟩ = some u2 ∧ b.cell? ⟨x, 5, none⟩ = some u3 ∧ b.cell? ⟨p, 0, none⟩ = some u4 ∧ b.cell? ⟨p, 1, none⟩ = some u5 := by
  obtain ⟨h0, h1, h2, h3, h4, h5, h6⟩ := h
  exact ⟨h0.trans (hb.mono h0.size), (hb.cell (p := ⟨qb, 7, none⟩) (lt_of_cell h1)).trans h1, (hb.cell (p := ⟨qb, 1, none⟩) (lt_of_cell h2)).trans h2, (hb.cell (p := ⟨qb, 2, none⟩) (lt_of_cell h3)).trans h3, (hb.cell (p := ⟨x, 5, none⟩) (lt_of_cell h4)).trans h4, (hb.cell (p := ⟨p, 0, none⟩) (lt_of_cell h5)).trans h5, (hb.cell (p := ⟨p, 1, none⟩) (lt_of_cell h6)).trans h6⟩
theorem own_drewG {w : World} {B : Nat} {e : TypeId} {size n : Nat} {v : Value} {xs : List Value} (h : w.ownsRow B e size v n xs) : w.drew.ownsRow B e size v n xs := h
/-- an Ask -/
def askG (c : Cfg) (si j sh : Nat) (ep : Int) (q : Qy) : Value := .agg #[.int .i64 (si : Int), .int .i64 ((j + 1 : Nat) : Int), .int .i64 (sh : Int), .int .i64 (seqS q.P sh), .int .i64 ep, .string q.t, .int .i64 q.K, .int .i64 c.B, .bool (!(lastS24 q.P sh).2), .int .i64 (lastS24 q.P sh).1.1, .string (lastS24 q.P sh).1.2]
def askWk (W C sh tu : Nat) : Int := (Pl.cop W C sh).getD (tu % C) 0
def askL (c : Cfg) (W C si j sh tu : Nat) (s : Cs) : List LT := if epochS s.ls (askWk W C sh tu) = 0 then [] else [(askWk W C sh tu, 73, askG c si j sh (epochS s.ls (askWk W C sh tu)) (s.qs.getD j q0))]
def RetLs (w : World) (lts : List LT) (e : Ending) (w' : World) : Prop := ∃ a cc, e = .returned (.slice a lts.length cc) ∧ w'.ownsRow w.heap.size 68 2 (.slice a lts.length cc) lts.length (ltV lts) ∧ Below w.heap.size w w'
section
variable {B0 : Nat} {w w' : World} {col col' : Nat → Nat} {i : CoI} {c : Cfg} {W C : Nat} {s : Cs} {iq : Nat → QI} {F : Nat → Prop}
set_option maxRecDepth 100000 in
set_option maxHeartbeats 1600000 in
theorem gAsk_any (si j sh tu : Nat) (w : World) (h : CoX B0 w col i c W C s iq) (hg : GoodL s.ls) (hj : j < s.qs.length) (hn : s.qs.length ≤ 1000000) (hsh : sh < c.kn + 1) (hC : 0 < C ∧ C ≤ 3) (htu : tu ≤ 1000000000) (hsi : si ≤ 4) (hac : (s.qs.getD j q0).ac = true) (hP : (s.qs.getD j q0).P.length ≤ 1000) :
    Calls Tryz.prog 71 #[.pointer (some ⟨i.x, 0, none⟩), .int .i64 (si : Int), .int .i64 ((j + 1 : Nat) : Int), .int .i64 (sh : Int), .int .i64 (tu : Int)] w (RetLs w (askL c W C si j sh tu s)) := by
  obtain ⟨id, hid⟩ : ∃ z : Int, ((j + 1 : Nat) : Int) = z := ⟨_, rfl⟩
  obtain ⟨q, hq⟩ : ∃ q, s.qs.getD j q0 = q := ⟨_, rfl⟩
  obtain ⟨x, hx⟩ : ∃ x, iq j = x := ⟨_, rfl⟩
  obtain ⟨wk, hwk⟩ : ∃ z, askWk W C sh tu = z := ⟨_, rfl⟩
  obtain ⟨ep, hep⟩ : ∃ z, epochS s.ls wk = z := ⟨_, rfl⟩
  obtain ⟨sq, hsq⟩ : ∃ z, seqS q.P sh = z := ⟨_, rfl⟩
  obtain ⟨y, hy⟩ : ∃ z, lastS24 q.P sh = z := ⟨_, rfl⟩
  obtain ⟨⟨y1, y2⟩, yb⟩ := y
  rw [hq] at hac hP
  have HR := Lib.hid (show askL c W C si j sh tu s = if ep = 0 then [] else [(wk, 73, .agg #[.int .i64 (si : Int), .int .i64 id, .int .i64 (sh : Int), .int .i64 sq, .int .i64 ep, .string q.t, .int .i64 q.K, .int .i64 c.B, .bool (!yb), .int .i64 y1, .string y2])] from by
    unfold askL askG
    rw [hq, hwk, hep, hsq, hy, hid])
  have Q := Lib.hid (show QAtG w col B0 (10 + 4 * j) id q x from by rw [← hq, ← hx, ← hid]; exact h.q j hj)
  have FQ := Lib.hid (show qmG iq s.qs.length id = some (.pointer (some ⟨x.qb, 0, none⟩)) from by rw [← hid, ← hx]; exact qmG_at iq _ j hj)
  have wf : wfI id := by unfold wfI; exact wf64 (by omega)
  have C0 := Lib.hid h
  obtain ⟨hmp, Sm, hm, hmc⟩ := Q.out.m hac
  have HMP := Lib.hid hmp
  have CE := Lib.hid (fun w' (hb : Below w.heap.size w w') => (show Calls Tryz.prog 45 #[.pointer (some ⟨i.bl, 0, none⟩), .int .i64 wk] w' fun e w'' => e = .returned (.int .i64 ep) ∧ w' = w'' from hep ▸ epoch_any i.bl wk w' (h.below hb).g.L hg))
  have CA := Lib.hid (fun w' (hb : Below w.heap.size w w') => mafter_g sh (y1, y2) yb w' (hm.below hb) hP hy)
  have CS := Lib.hid (fun w' (hb : Below w.heap.size w w') => mseq_g sh sq w' (hm.below hb) hP hsq)
  have x12 : w.cell? ⟨i.x, 12, none⟩ = some (.slice (some ⟨i.ca, 0, none⟩) (c.kn + 1) i.cc) := co_cell h.g.box rfl
  have r0 := (h.g.cop sh hsh).1
  obtain ⟨r, hr⟩ : ∃ r, tu % C = r := ⟨_, rfl⟩
  have hrC : r < C := by rw [← hr]; exact Nat.mod_lt _ hC.1
  have k0' : w.cell? ⟨i.cw sh, r, none⟩ = some (.int .i64 wk) := by rw [← hwk, ← hr]; exact copAt_cell h hsh (by omega)
  have em1 : Int.tmod (tu : Int) (C : Int) = (r : Int) := by rw [Int.tmod_eq_emod_of_nonneg (by omega)]; omega
  have em2 : IntKind.i64.wrap (r : Int) = (r : Int) := by rw [IntKind.wrap_i64]; omega
  have hC0 : decide ((C : Int) = 0) = false := decide_eq_false (by omega)
  have HB5 := Lib.hid h.g.hk
  have HID := Lib.hid hid
  rw [hid]
  obtain ⟨lts, hlts⟩ : ∃ l, askL c W C si j sh tu s = l := ⟨_, rfl⟩
  rw [hlts] at HR ⊢
  clear hlts h hq hx hid hg hj hn hac hP hmp hm hmc hwk hep hsq hy htu
  go_enter Tryz.func71, Tryz.ntmps71
  go_upto_region 1 with fail
  go_quiet (fail)
  go_upto_region 2 with fail
  generalize hw1 : w.drewN _ = w1 at *
  have B1 := Lib.hid (show Below w.heap.size w w1 from hw1 ▸ below_drewN w _)
  clear hw1 x12 r0 k0' em1 em2 hC0 hr hrC
  have x14 : w1.cell? ⟨i.x, 14, none⟩ = some (.pointer (some ⟨i.bl, 0, none⟩)) := co_cell (C0.out.below B1.out).g.box rfl
  have x17 : w1.cell? ⟨i.x, 17, none⟩ = some (.map (some i.bq)) := co_cell (C0.out.below B1.out).g.box rfl
  have q7 : w1.cell? ⟨x.qb, 7, none⟩ = some (.pointer (some ⟨x.bm, 0, none⟩)) := by rw [← HMP.out]; exact co_cell (Q.out.below B1.out).b rfl
  have MQ := Lib.hid (C0.out.below B1.out).g.Q
  by_cases he : ep = 0
  · have HL := Lib.hid (show lts = [] from by rw [HR.out, if_pos he])
    subst he
    clear HR
    go_wp2_with fail
    refine (CE.out _ B1.out).mono ?_
    rintro e w2 ⟨rfl, rfl⟩
    go_wp2_with fail
    go_ret
    rw [HL.out]
    exact ⟨none, 0, rfl, World.ownsRow_nil _ _ _ _, B1.out⟩
  · obtain ⟨v, hv⟩ : ∃ v : Value, (.agg #[.int .i64 (si : Int), .int .i64 id, .int .i64 (sh : Int), .int .i64 sq, .int .i64 ep, .string q.t, .int .i64 q.K, .int .i64 c.B, .bool (!yb), .int .i64 y1, .string y2] : Value) = v := ⟨_, rfl⟩
    have HL := Lib.hid (show lts = [(wk, 73, v)] from by rw [HR.out, if_neg he, hv])
    have HV := Lib.hid hv
    have heb : (ep == 0) = false := by simp [he]
    clear HR hv he
    go_wp2_with fail
    refine (CE.out _ B1.out).mono ?_
    rintro e w2 ⟨rfl, rfl⟩
    go_wp2_with (first | (at_lookup; refine wpList_get_mv mapTq rfl (.tmp 46) (.tmp 47) rfl rfl MQ.out id rfl wf (.pointer (some ⟨x.qb, 0, none⟩)) (by rw [FQ.out]; rfl) ?_) | fail)
    refine (CA.out _ B1.out).mono ?_
    rintro e w3 ⟨rfl, hb3⟩
    dsimp only
    have hbp := below_one w3 (.cells #[.int .i64 y1, .string y2] 71)
    have hbz := below_one w3 (.cells #[.int .i64 0, .string ⟨#[]⟩] 71)
    have B4 := Lib.hid ((B1.out.trans (hb3.mono B1.out.size)).trans (hbp.mono (B1.out.trans (hb3.mono B1.out.size)).size))
    obtain ⟨p, hp⟩ : ∃ p, w3.heap.size = p := ⟨_, rfl⟩
    have KP := Lib.hid (show (w3.alloc (.cells #[.int .i64 y1, .string y2] 71)).heap[p]? = some (.cells #[.int .i64 y1, .string y2] 71 (0, 0)) from by rw [← hp]; exact heap_alloc_new w3 _)
    clear x14 x17 q7 MQ hbz
    go_upto_region 7 with fail
    generalize w3.alloc (.cells #[.int .i64 y1, .string y2] 71) = w4 at *
    clear hbp hb3
    have C4 := C0.out.below B4.out
    have Q4 := Q.out.below B4.out
    have S0 := Lib.hid (show Below w.heap.size w w4.drew ∧ w4.drew.cell? ⟨x.qb, 7, none⟩ = some (.pointer (some ⟨x.bm, 0, none⟩)) ∧ w4.drew.cell? ⟨x.qb, 1, none⟩ = some (.string q.t) ∧ w4.drew.cell? ⟨x.qb, 2, none⟩ = some (.int .i64 q.K) ∧ w4.drew.cell? ⟨i.x, 5, none⟩ = some (.int .i64 c.B) ∧ w4.drew.cell? ⟨p, 0, none⟩ = some (.int .i64 y1) ∧ w4.drew.cell? ⟨p, 1, none⟩ = some (.string y2) from ⟨B4.out.drew, by rw [← HMP.out]; exact co_cell Q4.b rfl, co_cell Q4.b rfl, co_cell Q4.b rfl, co_cell C4.g.box rfl, co_cell KP.out rfl, co_cell KP.out rfl⟩)
    clear C4 Q4
    go_region_held3 (fun w' => Below w.heap.size w w' ∧ w'.cell? ⟨x.qb, 7, none⟩ = some (.pointer (some ⟨x.bm, 0, none⟩)) ∧ w'.cell? ⟨x.qb, 1, none⟩ = some (.string q.t) ∧ w'.cell? ⟨x.qb, 2, none⟩ = some (.int .i64 q.K) ∧ w'.cell? ⟨i.x, 5, none⟩ = some (.int .i64 c.B) ∧ w'.cell? ⟨p, 0, none⟩ = some (.int .i64 y1) ∧ w'.cell? ⟨p, 1, none⟩ = some (.string y2))
      (first | assumption | exact S0.out | exact askG_carry (by assumption) (by assumption) | exact askG_carry (by assumption) (below_one _ _))
      (first
        | (go_at_call 99; refine (CS.out _ (And.left (by assumption))).mono ?_; rintro e w5 ⟨rfl, rfl⟩))
    have HVV := HV.out
    have hb5 := below_one w4 (.cells #[.int .i64 wk, .iface 73 (.agg #[.int .i64 (si : Int), .int .i64 id, .int .i64 (sh : Int), .int .i64 sq, .int .i64 ep, .string q.t, .int .i64 q.K, .int .i64 c.B, .bool (!yb), .int .i64 y1, .string y2])] 68)
    have FIN := Lib.hid (show RetLs w lts (.returned (.slice (some ⟨w4.heap.size, 0, none⟩) 1 1)) (w4.alloc (.cells #[.int .i64 wk, .iface 73 (.agg #[.int .i64 (si : Int), .int .i64 id, .int .i64 (sh : Int), .int .i64 sq, .int .i64 ep, .string q.t, .int .i64 q.K, .int .i64 c.B, .bool (!yb), .int .i64 y1, .string y2])] 68)).drew from by
      rw [HL.out]
      refine ⟨_, _, rfl, ?_, (B4.out.trans (hb5.mono B4.out.size)).drew⟩
      rw [← HVV]
      exact own_drewG (base_less24 (World.ownsRow_lit w4 _ 1 (Nat.le_refl _) (by unfold maxLen; omega) rfl) B4.out.size))
    clear hb5 HVV
    go_wp2_with fail
    go_ret
    exact FIN.out
end
end Go.Proofs.YtblipdmagfiigaaGreat
namespace Go.Proofs.YtblipdmagfiigaaGreat
open Go.RowKit
theorem retW_int {k : IntKind} {a b : Int} (h : a = b) : Ending.returned (.int k a) = .returned (.int k b) := by rw [h]
/-- from 0 to most -/
def clip (n m : Int) : Int := min (max n 0) m
theorem clip_bd (n m : Int) (h : 0 ≤ m) : 0 ≤ clip n m ∧ clip n m ≤ m := by unfold clip; omega
theorem clamp_any (n m : Int) (w : World) :
    Calls Tryz.prog 79 #[.int .i64 n, .int .i64 m] w fun e w' => e = .returned (.int .i64 (clip n m)) ∧ w = w' := by
  go_enter Tryz.func79, Tryz.ntmps79
  go_wp2
  all_goals (go_ret; exact ⟨retW_int (by unfold clip; omega), rfl⟩)
theorem ticks_any (n : Int) (w : World) :
    Calls Tryz.prog 57 #[.int .i64 n] w fun e w' => e = .returned (.int .i64 (clip n 1000)) ∧ w = w' := by
  go_enter Tryz.func57, Tryz.ntmps57
  go_wp2_with (go_at_call 79; refine (clamp_any _ _ _).mono ?_; rintro e w' ⟨rfl, rfl⟩)
  go_ret
  exact ⟨rfl, rfl⟩
def tryAfter (n : Int) : Int := min (clip n 6 + 1) 6
theorem try_any (n : Int) (w : World) :
    Calls Tryz.prog 70 #[.int .i64 n] w fun e w' => e = .returned (.int .i64 (tryAfter n)) ∧ w = w' := by
  have hb := clip_bd n 6 (by decide)
  go_enter Tryz.func70, Tryz.ntmps70
  go_wp2_with (go_at_call 79; refine (clamp_any _ _ _).mono ?_; rintro e w' ⟨rfl, rfl⟩)
  all_goals (go_ret; exact ⟨retW_int (by unfold tryAfter; omega), rfl⟩)
/-- the first so many of a wait's doublings -/
def dbl (f : Int) : Nat → Int
  | 0 => f
  | k + 1 => dbl f k * 2
theorem dbl_bd (f : Int) (h0 : 0 ≤ f) (h1 : f ≤ 1000) (k : Nat) (hk : k ≤ 6) : 0 ≤ dbl f k ∧ dbl f k ≤ 64000 := by
  match k, hk with
  | 0, _ => simp [dbl]; omega
  | 1, _ => simp [dbl]; omega
  | 2, _ => simp [dbl]; omega
  | 3, _ => simp [dbl]; omega
  | 4, _ => simp [dbl]; omega
  | 5, _ => simp [dbl]; omega
  | 6, _ => simp [dbl]; omega
theorem u64W_bd (d : Int) : 0 ≤ IntKind.u64.wrap d ∧ IntKind.u64.wrap d < 18446744073709551616 := by
  simp only [IntKind.wrap, IntKind.signed, IntKind.bits]; simp; omega
theorem tmod_of (a m : Int) (h : 0 ≤ a) : a.tmod m = a % m := Int.tmod_eq_emod_of_nonneg h
theorem wait_sum (x a m : Int) (hx : 0 ≤ x) (hx2 : x ≤ 1000) (ha : 0 ≤ a) (hm : 1 ≤ m) (hm2 : m ≤ 1001) : wrap64 (x + wrap64 (a.tmod m)) = x + a % m := by
  rw [tmod_of a m ha]
  have h1 := Int.emod_nonneg a (show m ≠ 0 by omega)
  have h2 := Int.emod_lt_of_pos a (show 0 < m by omega)
  rw [IntWalk.wrap64_in (a % m) ⟨by omega, by omega⟩, IntWalk.wrap64_in _ ⟨by omega, by omega⟩]
/-- how long a try waits -/
def waitV (f c j t d : Int) : Int := min (dbl (clip f 1000) (clip t 6).toNat) (clip c 1000) + (IntKind.u64.wrap d) % (clip j 1000 + 1)
set_option maxHeartbeats 400000 in
theorem wait_any (c0 c1 c2 c3 c4 c5 c6 c7 c11 : Value) (f c j t d : Int) (w : World) :
    Calls Tryz.prog 73 #[.agg #[c0, c1, c2, c3, c4, c5, c6, c7, .int .i64 f, .int .i64 c, .int .i64 j, c11], .int .i64 t, .int .i64 d] w fun e w' => e = .returned (.int .i64 (waitV f c j t d)) ∧ Below w.heap.size w w' := by
  have hb := clip_bd t 6 (by decide)
  have hf := clip_bd f 1000 (by decide)
  have hj := clip_bd j 1000 (by decide)
  have hc := clip_bd c 1000 (by decide)
  go_enter Tryz.func73, Tryz.ntmps73
  go_wp2_with (first | (go_at_call 79; refine (clamp_any _ _ _).mono ?_; rintro e w' ⟨rfl, rfl⟩) | (go_at_call 57; refine (ticks_any _ _).mono ?_; rintro e w' ⟨rfl, rfl⟩))
  go_loop [7, 14] (fun v i => ∃ k : Nat, (k : Int) ≤ clip t 6 ∧ i = .int .i64 k ∧ v = .int .i64 (dbl (clip f 1000) k)) (fun _ i => 10 - (intOf i).toNat)
  case atStart => exact ⟨0, by omega, rfl, rfl⟩
  case round =>
    obtain ⟨k, hk, rfl, rfl⟩ := hrel
    have hd := dbl_bd (clip f 1000) hf.1 hf.2 k (by omega)
    by_cases hlt : (k : Int) < clip t 6
    · go_wp2
      go_round
      case rel => exact ⟨k + 1, by omega, by go_num, rfl⟩
      case measure => simp [intOf]; omega
    · have hkt : k = (clip t 6).toNat := by omega
      have HK := Lib.hid hkt
      clear hkt
      go_wp2_with (first | (go_at_call 79; refine (clamp_any _ _ _).mono ?_; rintro e w' ⟨rfl, rfl⟩) | (go_at_call 57; refine (ticks_any _ _).mono ?_; rintro e w' ⟨rfl, rfl⟩))
      all_goals
        go_ret
        refine ⟨retW_int ?_, (Below.refl _ _).alloc (Nat.le_refl _) _⟩
        unfold waitV
        rw [wait_sum _ _ _ (by omega) (by omega) (u64W_bd d).1 (by omega) (by omega), ← HK.out]
        all_goals (congr 1; omega)
end Go.Proofs.YtblipdmagfiigaaGreat
namespace Go.Proofs.YtblipdmagfiigaaGreat
open Go.RowKit
set_option linter.unusedVariables false
set_option maxRecDepth 20000
def atM (M : List TM) (id : Int) : Option Int := (M.find? (fun x => decide (x.id = id))).map TM.at_
theorem atT_atM {M : List TM} {id v : Int} {c : Bool} (hn : (M.map TM.id).Nodup) (h : AtT M id v c) : (atM M id).getD 0 = v ∧ (atM M id).isSome = c := by
  unfold atM
  rcases h with ⟨x, hx, h1, h2, h3⟩ | ⟨h1, h2, h3⟩
  · have : M.find? (fun x => decide (x.id = id)) = some x := by
      induction M with
      | nil => cases hx
      | cons y l ih =>
        rw [List.map_cons, List.nodup_cons] at hn
        rcases List.mem_cons.1 hx with e | e
        · subst e; rw [List.find?_cons_of_pos (by simp [h1])]
        · rw [List.find?_cons_of_neg (by
            simp only [decide_eq_true_eq]
            intro e2
            exact hn.1 (by rw [e2, ← h1]; exact List.mem_map_of_mem e))]
          exact ih hn.2 e
    rw [this]
    exact ⟨h2.symm, h3.symm⟩
  · have : M.find? (fun x => decide (x.id = id)) = none := by
      rw [List.find?_eq_none]
      intro x hx; simpa using h1 x hx
    rw [this]
    exact ⟨h2.symm, h3.symm⟩
theorem tq_nodup {b : Nat} {most : Int} {M : List TM} {w : World} {S : Nat → Prop} (h : TQ b most M w S) : (M.map TM.id).Nodup := by
  obtain ⟨na, nc, L, hP, hp, hH, hN, hl, h5, h6, h7⟩ := h; exact hN
theorem tAt_g (b : Nat) (most : Int) (M : List TM) (id : Int) (S : Nat → Prop) (w : World) (h : TQ b most M w S) :
    Calls Tryz.prog 68 #[.pointer (some ⟨b, 0, none⟩), .int .i64 id] w fun e w' => e = .returned (.tuple #[.int .i64 ((atM M id).getD 0), .bool (atM M id).isSome]) ∧ Below w.heap.size w w' :=
  (tAt_any b most M id S w h).mono fun e w' ⟨v, c, e1, h1, h2⟩ => by
    obtain ⟨a1, a2⟩ := atT_atM (tq_nodup h) h1
    exact ⟨by rw [e1, a1, a2], h2⟩
theorem waitV_bd (f c j t d : Int) : 0 ≤ waitV f c j t d ∧ waitV f c j t d ≤ 2000 := by
  have hb := clip_bd t 6 (by decide)
  have hf := clip_bd f 1000 (by decide)
  have hj := clip_bd j 1000 (by decide)
  have hc := clip_bd c 1000 (by decide)
  have hd := dbl_bd (clip f 1000) hf.1 hf.2 (clip t 6).toNat (by omega)
  have h1 := Int.emod_nonneg (IntKind.u64.wrap d) (show clip j 1000 + 1 ≠ 0 by omega)
  have h2 := Int.emod_lt_of_pos (IntKind.u64.wrap d) (show 0 < clip j 1000 + 1 by omega)
  unfold waitV
  omega
/-- a shard's state is another -/
def putSh (s : Cs) (j sh : Nat) (x : Sh4) : Cs := { s with qs := s.qs.set j { s.qs.getD j q0 with sh := (s.qs.getD j q0).sh.set sh x } }
def idT (si sh : Nat) : Int := ((6 * si + sh : Nat) : Int)
/-- asked, and the timer set -/
def askAt (c : Cfg) (si j sh : Nat) (draw : Int) (x : Sh4) (s : Cs) : Cs := { putSh s j sh x with M := setM 24 s.M (idT si sh) (s.now + waitV c.F c.P c.J x.tr draw) }
def shOf (s : Cs) (j sh : Nat) : Sh4 := (s.qs.getD j q0).sh.getD sh sh0
/-- what see does: 0 asked anew, 1 again, 2 a hedge, 3 nothing -/
def seeK (c : Cfg) (si j sh : Nat) (s : Cs) : Nat :=
  if (atM s.M (idT si sh)).isSome = false then 0 else if (atM s.M (idT si sh)).getD 0 ≤ s.now then 1 else if (shOf s j sh).he = false ∧ c.H ≤ s.now - (shOf s j sh).sk then 2 else 3
def newSh (W C sh : Nat) (s : Cs) : Sh4 := ⟨firstL24 s W C sh, 0, s.now, false⟩
def nextSh (x : Sh4) : Sh4 := ⟨x.tu + 1, tryAfter x.tr, x.sk, x.he⟩
def hedSh (x : Sh4) : Sh4 := ⟨x.tu, x.tr, x.sk, true⟩
def seeS (c : Cfg) (W C si j sh : Nat) (draw : Int) (s : Cs) : Cs :=
  match seeK c si j sh s with
  | 0 => askAt c si j sh draw (newSh W C sh s) s
  | 1 => askAt c si j sh draw (nextSh (shOf s j sh)) s
  | 2 => putSh s j sh (hedSh (shOf s j sh))
  | _ => s
def seeL (c : Cfg) (W C si j sh : Nat) (draw : Int) (s : Cs) : List LT :=
  match seeK c si j sh s with
  | 0 => askL c W C si j sh (newSh W C sh s).tu (seeS c W C si j sh draw s)
  | 1 => askL c W C si j sh ((shOf s j sh).tu + 1) (seeS c W C si j sh draw s)
  | 2 => askL c W C si j sh ((shOf s j sh).tu + 1) (seeS c W C si j sh draw s)
  | _ => []
theorem firstL24_lt (s : Cs) (W C sh : Nat) (h : 0 < C) : firstL24 s W C sh < C := by
  unfold firstL24
  cases e : flF (liveP s W C sh) C with
  | none => exact h
  | some k => exact (flF_lt e).1
theorem putSh_at (s : Cs) (j sh : Nat) (x : Sh4) (hj : j < s.qs.length) : (putSh s j sh x).qs.getD j q0 = { s.qs.getD j q0 with sh := (s.qs.getD j q0).sh.set sh x } := by
  unfold putSh; simp [List.getD_eq_getElem?_getD, hj]
theorem shOf_put {s : Cs} {j sh : Nat} (x : Sh4) (hj : j < s.qs.length) (hs : sh < (s.qs.getD j q0).sh.length) : shOf (putSh s j sh x) j sh = x := by
  unfold shOf
  rw [putSh_at s j sh x hj]
  dsimp only
  rw [List.getD_eq_getElem?_getD, List.getElem?_set_self hs]; rfl
theorem shV_set2 : ∀ (l : List Sh4) (i : Nat) (a : Nat) (b : Int), i < l.length → ((shV l).set (i * 4 + 1) (.int .i64 b)).set (i * 4) (.int .i64 (a : Int)) = shV (l.set i ⟨a, b, (l.getD i sh0).sk, (l.getD i sh0).he⟩)
  | [], i, a, b, h => absurd h (by simp)
  | x :: l, 0, a, b, h => rfl
  | x :: l, i + 1, a, b, h => by
    have := shV_set2 l i a b (by simpa using h)
    rw [show (i + 1) * 4 = i * 4 + 4 by omega]
    simp only [shV, List.set_cons_succ, List.set, List.getD_cons_succ]
    rw [this]
theorem shV_set3 : ∀ (l : List Sh4) (i : Nat) (a : Bool), i < l.length → (shV l).set (i * 4 + 3) (.bool a) = shV (l.set i ⟨(l.getD i sh0).tu, (l.getD i sh0).tr, (l.getD i sh0).sk, a⟩)
  | [], i, a, h => absurd h (by simp)
  | x :: l, 0, a, h => rfl
  | x :: l, i + 1, a, h => by
    have := shV_set3 l i a (by simpa using h)
    rw [show (i + 1) * 4 = i * 4 + 4 by omega]
    simp only [shV, List.set_cons_succ, List.set, List.getD_cons_succ]
    rw [this]
section
variable {B0 : Nat} {w w' : World} {col col' : Nat → Nat} {i : CoI} {c : Cfg} {W C : Nat} {s : Cs} {iq : Nat → QI} {F : Nat → Prop}
theorem CoX.shards (h : CoX B0 w col i c W C s iq) {j : Nat} (hj : j < s.qs.length) (hac : (s.qs.getD j q0).ac = true) (l : List Sh4) (hl : l.length = (s.qs.getD j q0).sh.length) (t : Turn (fun k => k = (iq j).sb) w w') (hh : w'.heap[(iq j).sb]? = some (.cells (shV l).toArray 143 (0, 0))) :
    ∃ iq', CoX B0 w' col i c W C { s with qs := s.qs.set j { s.qs.getD j q0 with sh := l } } iq' ∧ (iq' j).sb = (iq j).sb ∧ ExtG w col w' col := by
  have Q := h.q j hj
  obtain ⟨h1, h2, h3, h4⟩ := Q.s hac
  have hc : ∀ k, k = (iq j).sb → col k = 10 + 4 * j + 2 := fun k e => by rw [e]; exact h4
  refine ⟨_, h.query j hj t (fun k e => by have := hc k e; omega) _ (iq j) rfl ⟨(t.block _ Q.lt fun e => by have := hc _ e; have := Q.cb; omega).trans Q.b, mowns_block0 Q.o (fun g hg => t.block g (Q.o.lt g (by rw [hg]; rfl)).2 fun e => by have := hc _ e; have := Q.oc g hg; omega), Q.oc, Q.cb, fun ha => ?_, fun ha => ⟨h1, h2.trans hl.symm, hh, h4⟩⟩, by unfold updI; rw [if_pos rfl], (ExtG.refl _ _).turn t (fun k e => by have := hc k e; omega)⟩
  obtain ⟨m1, Sm, m2, m3⟩ := Q.m ha
  exact ⟨m1, Sm, m2.turn t (fun k hk e => by have := hc k e; have := m3 k hk; omega), m3⟩
/-- the cells of a shard -/
theorem shard_cells (h : CoX B0 w col i c W C s iq) {j sh : Nat} (hj : j < s.qs.length) (hac : (s.qs.getD j q0).ac = true) (hs : sh < (s.qs.getD j q0).sh.length) :
    w.cell? ⟨(iq j).sb, sh * 4, none⟩ = some (.int .i64 ((shOf s j sh).tu : Int)) ∧ w.cell? ⟨(iq j).sb, sh * 4 + 1, none⟩ = some (.int .i64 (shOf s j sh).tr) ∧ w.cell? ⟨(iq j).sb, sh * 4 + 2, none⟩ = some (.int .i64 (shOf s j sh).sk) ∧ w.cell? ⟨(iq j).sb, sh * 4 + 3, none⟩ = some (.bool (shOf s j sh).he) ∧ ∀ k, w.frozen? ⟨(iq j).sb, k, none⟩ = false := by
  obtain ⟨h1, h2, h3, h4⟩ := (h.q j hj).s hac
  obtain ⟨v0, v1, v2, v3⟩ := shV_at _ sh hs
  exact ⟨co_cell h3 (by rw [List.getElem?_toArray]; exact v0), co_cell h3 (by rw [List.getElem?_toArray]; exact v1), co_cell h3 (by rw [List.getElem?_toArray]; exact v2), co_cell h3 (by rw [List.getElem?_toArray]; exact v3), fun k => co_fz h3 k⟩
end
end Go.Proofs.YtblipdmagfiigaaGreat
namespace Go.Proofs.YtblipdmagfiigaaGreat
open Go.RowKit
set_option linter.unusedVariables false
set_option maxRecDepth 20000
section
variable {B0 : Nat} {w w' : World} {col col' : Nat → Nat} {i : CoI} {c : Cfg} {W C : Nat} {s : Cs} {iq : Nat → QI} {F : Nat → Prop}
theorem atG_carry {w1 a b : World} {x : Nat} {u : Value} (h : Below w1.heap.size w1 a ∧ a.cell? ⟨x, 16, none⟩ = some u) (hb : Below a.heap.size a b) : Below w1.heap.size w1 b ∧ b.cell? ⟨x, 16, none⟩ = some u :=
  ⟨h.1.trans (hb.mono h.1.size), (hb.cell (p := ⟨x, 16, none⟩) (lt_of_cell h.2)).trans h.2⟩
set_option maxRecDepth 100000 in
set_option maxHeartbeats 3200000 in
theorem gSee_0 (si j sh : Nat) (draw : Int) (w : World) (h : CoX B0 w col i c W C s iq) (hg : GoodL s.ls) (hj : j < s.qs.length) (hn : s.qs.length ≤ 1000000) (hsh : sh < c.kn + 1) (hC : 0 < C ∧ C ≤ 3) (hsi : si ≤ 4) (hac : (s.qs.getD j q0).ac = true) (hP : (s.qs.getD j q0).P.length ≤ 1000) (hsl : (s.qs.getD j q0).sh.length = c.kn + 1)
    (hbd : (shOf s j sh).tu ≤ 100000000 ∧ -1000000000 ≤ (shOf s j sh).sk ∧ (shOf s j sh).sk ≤ 1000000000) (hk : seeK c si j sh s = 0) :
    Calls Tryz.prog 42 #[.pointer (some ⟨i.x, 0, none⟩), .int .i64 (si : Int), .int .i64 ((j + 1 : Nat) : Int), .int .i64 (sh : Int), .int .i64 draw] w (RetC B0 w col i c W C (seeS c W C si j sh draw s) (seeL c W C si j sh draw s)) := by
  obtain ⟨id, hid⟩ : ∃ z : Int, ((j + 1 : Nat) : Int) = z := ⟨_, rfl⟩
  obtain ⟨tid, htid⟩ : ∃ z : Int, ((6 * si + sh : Nat) : Int) = z := ⟨_, rfl⟩
  obtain ⟨x, hx⟩ : ∃ x, iq j = x := ⟨_, rfl⟩
  obtain ⟨X, hX⟩ : ∃ y, shOf s j sh = y := ⟨_, rfl⟩
  obtain ⟨av, hav⟩ : ∃ v, (atM s.M tid).getD 0 = v := ⟨_, rfl⟩
  obtain ⟨ab, hab⟩ : ∃ v, (atM s.M tid).isSome = v := ⟨_, rfl⟩
  have HSS := Lib.hid (show seeS c W C si j sh draw s = askAt c si j sh draw (newSh W C sh s) s from by unfold seeS; rw [hk]; rfl)
  have HSL := Lib.hid (show seeL c W C si j sh draw s = askL c W C si j sh (newSh W C sh s).tu (seeS c W C si j sh draw s) from by unfold seeL; rw [hk]; rfl)
  have HK := Lib.hid (show (if ab = false then 0 else if av ≤ s.now then 1 else if X.he = false ∧ c.H ≤ s.now - X.sk then 2 else 3) = 0 from by
    have h1 := hk
    unfold seeK at h1
    rw [show idT si sh = tid from htid, hav, hab, hX] at h1
    exact h1)
  rw [hX] at hbd
  have HID := Lib.hid hid
  have HX := Lib.hid hx; have HXX := Lib.hid hX
  have C0 := Lib.hid h
  have Q := Lib.hid (show QAtG w col B0 (10 + 4 * j) id (s.qs.getD j q0) x from by rw [← hx, ← hid]; exact h.q j hj)
  have FQ := Lib.hid (show qmG iq s.qs.length id = some (.pointer (some ⟨x.qb, 0, none⟩)) from by rw [← hid, ← hx]; exact qmG_at iq _ j hj)
  have wf : wfI id := by unfold wfI; exact wf64 (by omega)
  obtain ⟨St, ht, hcT⟩ := h.g.T
  have HC := Lib.hid hcT
  have TW := Lib.hid ht
  have CT := Lib.hid (fun w' (hb : Below w.heap.size w w') => (show Calls Tryz.prog 68 #[.pointer (some ⟨i.bt, 0, none⟩), .int .i64 tid] w' fun e w'' => e = .returned (.tuple #[.int .i64 av, .bool ab]) ∧ Below w'.heap.size w' w'' from by
    have h1 := tAt_g i.bt 24 s.M tid St w' ((tq_ok _ _ _).below ht hb)
    rw [hav, hab] at h1
    exact h1))
  have CTi := Lib.hid (fun w' => (show Calls Tryz.prog 62 #[.int .i64 (si : Int), .int .i64 (sh : Int)] w' fun e w'' => e = .returned (.int .i64 tid) ∧ w' = w'' from htid ▸ timerOf_any si sh w' (by have := h.g.hk; omega)))
  have PR := Lib.hid (show GoodL s.ls ∧ j < s.qs.length ∧ s.qs.length ≤ 1000000 ∧ sh < c.kn + 1 ∧ (0 < C ∧ C ≤ 3) ∧ si ≤ 4 ∧ (s.qs.getD j q0).ac = true ∧ (s.qs.getD j q0).P.length ≤ 1000 ∧ (s.qs.getD j q0).sh.length = c.kn + 1 ∧ (0 ≤ s.now ∧ s.now ≤ 1000000) from ⟨hg, hj, hn, hsh, hC, hsi, hac, hP, hsl, h.g.nw0⟩)
  have HT := Lib.hid htid
  obtain ⟨q1, q2, q3, q4⟩ := Q.out.s hac
  have x17 : w.cell? ⟨i.x, 17, none⟩ = some (.map (some i.bq)) := co_cell h.g.box rfl
  obtain ⟨n1, hn1⟩ : ∃ n, c.kn + 1 = n := ⟨_, rfl⟩
  have y8 : w.cell? ⟨x.qb, 8, none⟩ = some (.slice (some ⟨x.sb, 0, none⟩) n1 x.sc) := by
    have h1 : w.cell? ⟨x.qb, 8, none⟩ = some (.slice x.sa x.sn x.sc) := co_cell Q.out.b rfl
    rw [q1, q2, hsl, hn1] at h1; exact h1
  have hlt : sh < n1 := by rw [← hn1]; exact hsh
  have S0 := Lib.hid (show Below w.heap.size w w.drew ∧ w.drew.cell? ⟨i.x, 16, none⟩ = some (.pointer (some ⟨i.bt, 0, none⟩)) from ⟨(Below.refl _ _).drew, co_cell h.g.box rfl⟩)
  have MQ := Lib.hid h.g.Q
  obtain ⟨sS, hsS⟩ : ∃ z, seeS c W C si j sh draw s = z := ⟨_, rfl⟩
  obtain ⟨lL, hlL⟩ : ∃ z, seeL c W C si j sh draw s = z := ⟨_, rfl⟩
  rw [hsS] at HSS HSL
  rw [hlL] at HSL
  rw [hsS, hlL, hid]
  clear h hg hj hn hsh hC hsi hac hP hsl hid htid hx hX hav hab hsS hlL hk ht hcT q1 q2 q3 q4
  go_enter Tryz.func42, Tryz.ntmps42
  go_upto_region 2 with (first | (at_lookup; refine wpList_get_mv mapTq rfl (.tmp 17) (.tmp 18) rfl rfl MQ.out id rfl wf (.pointer (some ⟨x.qb, 0, none⟩)) (by rw [FQ.out]; rfl) ?_) | fail)
  go_region_held3 (fun w' => Below w.heap.size w w' ∧ w'.cell? ⟨i.x, 16, none⟩ = some (.pointer (some ⟨i.bt, 0, none⟩)))
    (first | assumption | exact S0.out | exact atG_carry (by assumption) (by assumption))
    (first
      | (go_at_call 62; refine (CTi.out _).mono ?_; rintro e w2 ⟨rfl, rfl⟩)
      | (go_at_call 68; refine (CT.out _ (And.left (by assumption))).mono ?_; rintro e w3 ⟨rfl, hb3⟩))
  rename_i T5
  have B3 := Lib.hid (show Below w.heap.size w w3 from T5.1)
  clear T5 hb3 x17 y8 S0 CT MQ
  have C3 := Lib.hid (C0.out.below B3.out)
  have E3 := Lib.hid ((ExtG.refl w col).below B3.out)
  have hab : ab = false := by
    have := HK.out
    cases ab
    · rfl
    · rw [if_neg (by decide)] at this; split at this <;> (try split at this) <;> simp at this
  subst hab
  go_upto_region 5 with fail
  have CF := Lib.hid (gFirstLive_any sh w3.drew (C3.out.below ((Below.refl _ _).drew)) PR.out.1 PR.out.2.2.2.1 PR.out.2.2.2.2.1.2)
  have x13 : w3.cell? ⟨i.x, 13, none⟩ = some (.int .i64 s.now) := co_cell C3.out.g.box rfl
  obtain ⟨tuN, htuN⟩ : ∃ z, (newSh W C sh s).tu = z := ⟨_, rfl⟩
  have HTU := Lib.hid htuN
  have HTN := Lib.hid (show tuN ≤ 1000000000 from by have := firstL24_lt s W C sh PR.out.2.2.2.2.1.1; have h2 : firstL24 s W C sh = tuN := htuN; have := PR.out.2.2.2.2.1.2; omega)
  rw [show firstL24 s W C sh = tuN from htuN] at CF
  clear htuN
  have G := Lib.hid (show ∀ w4, Below w3.drew.heap.size w3.drew w4 → w4.cell? ⟨x.sb, sh * 4, none⟩ = some (.int .i64 (X.tu : Int)) ∧ w4.cell? ⟨x.sb, sh * 4 + 1, none⟩ = some (.int .i64 X.tr) ∧ w4.cell? ⟨x.sb, sh * 4 + 2, none⟩ = some (.int .i64 X.sk) ∧ w4.cell? ⟨x.sb, sh * 4 + 3, none⟩ = some (.bool X.he) ∧ ∀ k, w4.frozen? ⟨x.sb, k, none⟩ = false from fun w4 hb => by
    have h1 := shard_cells (C3.out.below ((Below.refl w3.heap.size w3).drew.trans hb)) (sh := sh) PR.out.2.1 PR.out.2.2.2.2.2.2.1 (by rw [PR.out.2.2.2.2.2.2.2.2.1]; exact PR.out.2.2.2.1)
    rw [HX.out, HXX.out] at h1
    exact h1)
  have GX := Lib.hid (fun (w4 : World) (hb : Below w3.drew.heap.size w3.drew w4) => (C3.out.below ((Below.refl w3.heap.size w3).drew.trans hb)).g.box)
  go_region_law
    (first
      | (go_simp; go_at_call 69; (with_reducible refine CF.out.mono ?_); rintro e w4 ⟨rfl, hb4⟩; obtain ⟨s0, s1, s2, s3, z0⟩ := G.out w4 hb4; have x13' : w4.cell? ⟨i.x, 13, none⟩ = some (.int .i64 s.now) := co_cell (GX.out w4 hb4) rfl))
  all_goals
    have hb34 : Below w3.heap.size w3 w4 := (Below.refl w3.heap.size w3).drew.trans hb4
    have C4 := C3.out.below hb34
    have E4 := E3.out.below hb34
    have T4 := (tq_ok _ _ _).below ((tq_ok _ _ _).below TW.out B3.out) hb34
    have hsh4 : w4.heap[x.sb]? = some (.cells (shV (s.qs.getD j q0).sh).toArray 143 (0, 0)) := by rw [← HX.out]; exact ((C4.q j PR.out.2.1).s PR.out.2.2.2.2.2.2.1).2.2.1
    have t5 : Turn (fun k => k = x.sb) w4 ((((w4.setCell ⟨x.sb, sh * 4, none⟩ (.int .i64 (tuN : Int))).setCell ⟨x.sb, sh * 4 + 1, none⟩ (.int .i64 0)).setCell ⟨x.sb, sh * 4 + 2, none⟩ (.int .i64 s.now)).setCell ⟨x.sb, sh * 4 + 3, none⟩ (.bool false)) := (((Turn.setCell (F := fun k => k = x.sb) rfl).trans (Turn.setCell (F := fun k => k = x.sb) rfl)).trans (Turn.setCell (F := fun k => k = x.sb) rfl)).trans (Turn.setCell (F := fun k => k = x.sb) rfl)
    have h5 : ((((w4.setCell ⟨x.sb, sh * 4, none⟩ (.int .i64 (tuN : Int))).setCell ⟨x.sb, sh * 4 + 1, none⟩ (.int .i64 0)).setCell ⟨x.sb, sh * 4 + 2, none⟩ (.int .i64 s.now)).setCell ⟨x.sb, sh * 4 + 3, none⟩ (.bool false)).heap[x.sb]? = some (.cells (shV ((s.qs.getD j q0).sh.set sh ⟨tuN, 0, s.now, false⟩)).toArray 143 (0, 0)) := by
      have e := shV_set (s.qs.getD j q0).sh sh ⟨tuN, 0, s.now, false⟩ (by rw [PR.out.2.2.2.2.2.2.2.2.1]; exact PR.out.2.2.2.1)
      rw [Go.heap_setCell_same _ x.sb _ _ _ _ (Go.heap_setCell_same _ x.sb _ _ _ _ (Go.heap_setCell_same _ x.sb _ _ _ _ (Go.heap_setCell_same w4 x.sb _ _ _ _ hsh4))), List.setIfInBounds_toArray, List.setIfInBounds_toArray, List.setIfInBounds_toArray, List.setIfInBounds_toArray]
      exact congrArg (fun l : List Value => some (Obj.cells l.toArray 143 (0, 0))) e
    clear s0 s1 s2 s3 z0 x13 x13' hb34 hsh4
    go_upto_region 12 with fail
    generalize (((w4.setCell ⟨x.sb, sh * 4, none⟩ (.int .i64 (tuN : Int))).setCell ⟨x.sb, sh * 4 + 1, none⟩ (.int .i64 0)).setCell ⟨x.sb, sh * 4 + 2, none⟩ (.int .i64 s.now)).setCell ⟨x.sb, sh * 4 + 3, none⟩ (.bool false) = w5 at *
    have HXE := Lib.hid (show newSh W C sh s = ⟨tuN, 0, s.now, false⟩ from by have h := HTU.out; unfold newSh at h ⊢; dsimp only at h; rw [h])
    obtain ⟨iq5, hC5, hsb5, hE5⟩ := C4.shards PR.out.2.1 PR.out.2.2.2.2.2.2.1 ((s.qs.getD j q0).sh.set sh ⟨tuN, 0, s.now, false⟩) List.length_set (by rw [HX.out]; exact t5) (by rw [HX.out]; exact h5)
    have hshl : sh < (s.qs.getD j q0).sh.length := by rw [PR.out.2.2.2.2.2.2.2.2.1]; exact PR.out.2.2.2.1
    have hat := putSh_at s j sh ⟨tuN, 0, s.now, false⟩ PR.out.2.1
    have hsf := shOf_put ⟨tuN, 0, s.now, false⟩ PR.out.2.1 hshl
    have hln : (putSh s j sh ⟨tuN, 0, s.now, false⟩).qs.length = s.qs.length := List.length_set
    obtain ⟨s1, hs1⟩ : ∃ z, putSh s j sh ⟨tuN, 0, s.now, false⟩ = z := ⟨_, rfl⟩
    have C5 := Lib.hid (show CoX B0 w5 col i c W C s1 iq5 from hs1 ▸ hC5)
    have E5 := Lib.hid (E4.trans hE5)
    have HEQ := Lib.hid hs1
    have hnow : s1.now = s.now := by rw [← hs1]; rfl
    have hlsE : s1.ls = s.ls := by rw [← hs1]; rfl
    rw [hs1] at hat hsf hln
    have Y1 := Lib.hid (show j < s1.qs.length ∧ (s1.qs.getD j q0).ac = true ∧ sh < (s1.qs.getD j q0).sh.length ∧ (GoodL s1.ls ∧ s1.qs.length ≤ 1000000 ∧ si ≤ 4) ∧ (s1.qs.getD j q0).P.length ≤ 1000 ∧ (iq5 j).sb = x.sb ∧ (shOf s1 j sh).tr = 0 ∧ s1.now = s.now ∧ (shOf s1 j sh).tu = tuN from
      ⟨by rw [hln]; exact PR.out.2.1, by rw [hat]; exact PR.out.2.2.2.2.2.2.1, by rw [hat]; dsimp only; rw [List.length_set]; exact hshl, ⟨by rw [hlsE]; exact PR.out.1, by rw [hln]; exact PR.out.2.2.1, PR.out.2.2.2.2.2.1⟩, by rw [hat]; exact PR.out.2.2.2.2.2.2.2.1, by rw [hsb5, HX.out], by rw [hsf], hnow, by rw [hsf]⟩)
    have T5 := Lib.hid ((tq_ok _ _ _).turn T4 t5 (fun k hk e => by have h1 := HC.out k hk; have h2 := ((C0.out.q j PR.out.2.1).s PR.out.2.2.2.2.2.2.1).2.2.2; rw [HX.out, ← e] at h2; omega))
    clear hC5 hsb5 hE5 hshl hat hsf hln hs1 hnow hlsE t5 h5 C4 E4 T4
    have HS := Lib.hid (fun (w' : World) (col'' : Nat → Nat) (M' : List TM) (hx : CoX B0 w' col'' i c W C { s1 with M := M' } iq5) => (show w'.cell? ⟨i.x, 16, none⟩ = some (.pointer (some ⟨i.bt, 0, none⟩)) ∧ w'.cell? ⟨i.x, 13, none⟩ = some (.int .i64 s.now) ∧ w'.cell? ⟨i.x, 0, none⟩ = some (.slice none 0 0) ∧ w'.cell? ⟨i.x, 1, none⟩ = some (.slice i.ka c.kn i.kc) ∧ w'.cell? ⟨i.x, 2, none⟩ = some (.int .i64 c.W) ∧ w'.cell? ⟨i.x, 3, none⟩ = some (.int .i64 c.C) ∧ w'.cell? ⟨i.x, 4, none⟩ = some (.int .i64 c.S) ∧ w'.cell? ⟨i.x, 5, none⟩ = some (.int .i64 c.B) ∧ w'.cell? ⟨i.x, 6, none⟩ = some (.int .i64 c.L) ∧ w'.cell? ⟨i.x, 7, none⟩ = some (.int .i64 c.H) ∧ w'.cell? ⟨i.x, 8, none⟩ = some (.int .i64 c.F) ∧ w'.cell? ⟨i.x, 9, none⟩ = some (.int .i64 c.P) ∧ w'.cell? ⟨i.x, 10, none⟩ = some (.int .i64 c.J) ∧ w'.cell? ⟨i.x, 11, none⟩ = some (.int .i64 c.N) ∧ w'.cell? ⟨x.sb, sh * 4 + 1, none⟩ = some (.int .i64 0) from by
      have hs := shard_cells hx (j := j) (sh := sh) Y1.out.1 Y1.out.2.1 Y1.out.2.2.1
      rw [Y1.out.2.2.2.2.2.1] at hs
      have hs1 : w'.cell? ⟨x.sb, sh * 4 + 1, none⟩ = some (.int .i64 (shOf s1 j sh).tr) := hs.2.1
      rw [Y1.out.2.2.2.2.2.2.1] at hs1
      refine ⟨co_cell hx.g.box rfl, ?_, co_cell hx.g.box rfl, co_cell hx.g.box rfl, co_cell hx.g.box rfl, co_cell hx.g.box rfl, co_cell hx.g.box rfl, co_cell hx.g.box rfl, co_cell hx.g.box rfl, co_cell hx.g.box rfl, co_cell hx.g.box rfl, co_cell hx.g.box rfl, co_cell hx.g.box rfl, co_cell hx.g.box rfl, ?_⟩
      · have := co_cell (i := 13) hx.g.box rfl
        dsimp only at this
        rw [Y1.out.2.2.2.2.2.2.2.1] at this; exact this
      · exact hs1))
    have S0 := Lib.hid (HS.out w5.drew col s1.M (C5.out.below (Below.refl _ _).drew))
    obtain ⟨wv, hwv⟩ : ∃ z, waitV c.F c.P c.J 0 draw = z := ⟨_, rfl⟩
    have HWV := Lib.hid hwv
    have hwb := waitV_bd c.F c.P c.J 0 draw
    rw [hwv] at hwb
    obtain ⟨a2, ha2⟩ : ∃ z, s.now + wv = z := ⟨_, rfl⟩
    have eadd : IntKind.i64.wrap (s.now + wv) = a2 := by have := PR.out.2.2.2.2.2.2.2.2.2; rw [IntKind.wrap_i64]; omega
    have HA2 := Lib.hid ha2
    clear ha2 hwb
    have CW := Lib.hid (fun w' => (show Calls Tryz.prog 73 #[.agg #[.slice none 0 0, .slice i.ka c.kn i.kc, .int .i64 c.W, .int .i64 c.C, .int .i64 c.S, .int .i64 c.B, .int .i64 c.L, .int .i64 c.H, .int .i64 c.F, .int .i64 c.P, .int .i64 c.J, .int .i64 c.N], .int .i64 0, .int .i64 draw] w' fun e w'' => e = .returned (.int .i64 wv) ∧ Below w'.heap.size w' w'' from hwv ▸ wait_any _ _ _ _ _ _ _ _ _ c.F c.P c.J 0 draw w'))
    clear hwv
    have CSet := Lib.hid (fun w' (h : TQ i.bt 24 s.M w' St) => tSet_any i.bt 24 s.M tid a2 St w' h (by decide))
    go_region_held3 (fun w' => w'.cell? ⟨i.x, 16, none⟩ = some (.pointer (some ⟨i.bt, 0, none⟩)) ∧ w'.cell? ⟨i.x, 13, none⟩ = some (.int .i64 s.now) ∧ w'.cell? ⟨i.x, 0, none⟩ = some (.slice none 0 0) ∧ w'.cell? ⟨i.x, 1, none⟩ = some (.slice i.ka c.kn i.kc) ∧ w'.cell? ⟨i.x, 2, none⟩ = some (.int .i64 c.W) ∧ w'.cell? ⟨i.x, 3, none⟩ = some (.int .i64 c.C) ∧ w'.cell? ⟨i.x, 4, none⟩ = some (.int .i64 c.S) ∧ w'.cell? ⟨i.x, 5, none⟩ = some (.int .i64 c.B) ∧ w'.cell? ⟨i.x, 6, none⟩ = some (.int .i64 c.L) ∧ w'.cell? ⟨i.x, 7, none⟩ = some (.int .i64 c.H) ∧ w'.cell? ⟨i.x, 8, none⟩ = some (.int .i64 c.F) ∧ w'.cell? ⟨i.x, 9, none⟩ = some (.int .i64 c.P) ∧ w'.cell? ⟨i.x, 10, none⟩ = some (.int .i64 c.J) ∧ w'.cell? ⟨i.x, 11, none⟩ = some (.int .i64 c.N) ∧ w'.cell? ⟨x.sb, sh * 4 + 1, none⟩ = some (.int .i64 0))
      (first | assumption | exact S0.out)
      (first
        | (go_at_call 62; refine (CTi.out _).mono ?_; rintro e w2 ⟨rfl, rfl⟩)
        | (go_at_call 73; refine (CW.out _).mono ?_; rintro e w6 ⟨rfl, hb6⟩; have hb56 : Below w5.heap.size w5 w6 := (Below.refl w5.heap.size w5).drew.trans hb6; have S6 := HS.out w6 col s1.M (C5.out.below hb56))
        | (go_at_call 72; refine (CSet.out _ ((tq_ok _ _ _).below T5.out hb56)).mono ?_; rintro e w7 ⟨rfl, hP⟩; have S7 := HS.out w7 _ _ ((C5.out.below hb56).timers HC.out hP).1))
    have C7 := Lib.hid ((C5.out.below hb56).timers HC.out hP).1
    have E7 := Lib.hid ((E5.out.below hb56).trans ((C5.out.below hb56).timers HC.out hP).2)
    obtain ⟨col7, hcol7⟩ : ∃ z, newCol w6 w7 3 col = z := ⟨_, rfl⟩
    rw [hcol7] at C7 E7
    clear hcol7 hP S6 S7 hb56 hb6 S0 CSet CW HS eadd
    have s0 : w7.cell? ⟨x.sb, sh * 4, none⟩ = some (.int .i64 (tuN : Int)) := by
      have hs := (shard_cells C7.out (j := j) (sh := sh) Y1.out.1 Y1.out.2.1 Y1.out.2.2.1).1
      rw [Y1.out.2.2.2.2.2.1] at hs
      have hs1 : w7.cell? ⟨x.sb, sh * 4, none⟩ = some (.int .i64 ((shOf s1 j sh).tu : Int)) := hs
      rw [Y1.out.2.2.2.2.2.2.2.2] at hs1
      exact hs1
    have HS2 := Lib.hid (show sS = { s1 with M := setM 24 s.M tid a2 } from by
      rw [HSS.out, HXE.out]
      unfold askAt
      rw [HEQ.out, ← HA2.out, ← HWV.out, show idT si sh = tid from HT.out])
    have CA := Lib.hid (show Calls Tryz.prog 71 #[.pointer (some ⟨i.x, 0, none⟩), .int .i64 (si : Int), .int .i64 id, .int .i64 (sh : Int), .int .i64 (tuN : Int)] w7 (RetLs w7 lL) from by
      rw [HSL.out, HTU.out, ← HID.out, HS2.out]
      exact gAsk_any si j sh tuN w7 C7.out Y1.out.2.2.2.1.1 Y1.out.1 Y1.out.2.2.2.1.2.1 PR.out.2.2.2.1 PR.out.2.2.2.2.1 HTN.out PR.out.2.2.2.2.2.1 Y1.out.2.1 Y1.out.2.2.2.2.1)
    go_wp2_with fail
    refine CA.out.mono ?_
    rintro e w8 ⟨a, cc, rfl, ho, hb8⟩
    have FIN := Lib.hid (show RetC B0 w col i c W C sS lL (.returned (.slice a lL.length cc)) w8 from by
      rw [HS2.out]
      exact ⟨col7, iq5, a, cc, rfl, C7.out.below hb8, E7.out.below hb8, base_less24 ho E7.out.1.size, fun g hg => C7.out.g.nw g (ho.lt g (by rw [hg]; rfl)).1⟩)
    clear ho hb8
    go_wp2_with fail
    go_ret
    exact FIN.out
end
end Go.Proofs.YtblipdmagfiigaaGreat
namespace Go.Proofs.YtblipdmagfiigaaGreat
open Go.RowKit
set_option linter.unusedVariables false
set_option maxRecDepth 20000
section
variable {B0 : Nat} {w w' : World} {col col' : Nat → Nat} {i : CoI} {c : Cfg} {W C : Nat} {s : Cs} {iq : Nat → QI} {F : Nat → Prop}
set_option maxRecDepth 100000 in
set_option maxHeartbeats 3200000 in
theorem gSee_1 (si j sh : Nat) (draw : Int) (w : World) (h : CoX B0 w col i c W C s iq) (hg : GoodL s.ls) (hj : j < s.qs.length) (hn : s.qs.length ≤ 1000000) (hsh : sh < c.kn + 1) (hC : 0 < C ∧ C ≤ 3) (hsi : si ≤ 4) (hac : (s.qs.getD j q0).ac = true) (hP : (s.qs.getD j q0).P.length ≤ 1000) (hsl : (s.qs.getD j q0).sh.length = c.kn + 1)
    (hbd : (shOf s j sh).tu ≤ 100000000 ∧ -1000000000 ≤ (shOf s j sh).sk ∧ (shOf s j sh).sk ≤ 1000000000) (hk : seeK c si j sh s = 1) :
    Calls Tryz.prog 42 #[.pointer (some ⟨i.x, 0, none⟩), .int .i64 (si : Int), .int .i64 ((j + 1 : Nat) : Int), .int .i64 (sh : Int), .int .i64 draw] w (RetC B0 w col i c W C (seeS c W C si j sh draw s) (seeL c W C si j sh draw s)) := by
  obtain ⟨id, hid⟩ : ∃ z : Int, ((j + 1 : Nat) : Int) = z := ⟨_, rfl⟩
  obtain ⟨tid, htid⟩ : ∃ z : Int, ((6 * si + sh : Nat) : Int) = z := ⟨_, rfl⟩
  obtain ⟨x, hx⟩ : ∃ x, iq j = x := ⟨_, rfl⟩
  obtain ⟨X, hX⟩ : ∃ y, shOf s j sh = y := ⟨_, rfl⟩
  obtain ⟨av, hav⟩ : ∃ v, (atM s.M tid).getD 0 = v := ⟨_, rfl⟩
  obtain ⟨ab, hab⟩ : ∃ v, (atM s.M tid).isSome = v := ⟨_, rfl⟩
  have HSS := Lib.hid (show seeS c W C si j sh draw s = askAt c si j sh draw (nextSh X) s from by unfold seeS; rw [hk]; rw [← hX]; rfl)
  have HSL := Lib.hid (show seeL c W C si j sh draw s = askL c W C si j sh (X.tu + 1) (seeS c W C si j sh draw s) from by unfold seeL; rw [hk]; rw [← hX]; rfl)
  have HK := Lib.hid (show (if ab = false then 0 else if av ≤ s.now then 1 else if X.he = false ∧ c.H ≤ s.now - X.sk then 2 else 3) = 1 from by
    have h1 := hk
    unfold seeK at h1
    rw [show idT si sh = tid from htid, hav, hab, hX] at h1
    exact h1)
  rw [hX] at hbd
  have HID := Lib.hid hid
  have HX := Lib.hid hx; have HXX := Lib.hid hX
  have C0 := Lib.hid h
  have Q := Lib.hid (show QAtG w col B0 (10 + 4 * j) id (s.qs.getD j q0) x from by rw [← hx, ← hid]; exact h.q j hj)
  have FQ := Lib.hid (show qmG iq s.qs.length id = some (.pointer (some ⟨x.qb, 0, none⟩)) from by rw [← hid, ← hx]; exact qmG_at iq _ j hj)
  have wf : wfI id := by unfold wfI; exact wf64 (by omega)
  obtain ⟨St, ht, hcT⟩ := h.g.T
  have HC := Lib.hid hcT
  have TW := Lib.hid ht
  have CT := Lib.hid (fun w' (hb : Below w.heap.size w w') => (show Calls Tryz.prog 68 #[.pointer (some ⟨i.bt, 0, none⟩), .int .i64 tid] w' fun e w'' => e = .returned (.tuple #[.int .i64 av, .bool ab]) ∧ Below w'.heap.size w' w'' from by
    have h1 := tAt_g i.bt 24 s.M tid St w' ((tq_ok _ _ _).below ht hb)
    rw [hav, hab] at h1
    exact h1))
  have CTi := Lib.hid (fun w' => (show Calls Tryz.prog 62 #[.int .i64 (si : Int), .int .i64 (sh : Int)] w' fun e w'' => e = .returned (.int .i64 tid) ∧ w' = w'' from htid ▸ timerOf_any si sh w' (by have := h.g.hk; omega)))
  have PR := Lib.hid (show GoodL s.ls ∧ j < s.qs.length ∧ s.qs.length ≤ 1000000 ∧ sh < c.kn + 1 ∧ (0 < C ∧ C ≤ 3) ∧ si ≤ 4 ∧ (s.qs.getD j q0).ac = true ∧ (s.qs.getD j q0).P.length ≤ 1000 ∧ (s.qs.getD j q0).sh.length = c.kn + 1 ∧ (0 ≤ s.now ∧ s.now ≤ 1000000) from ⟨hg, hj, hn, hsh, hC, hsi, hac, hP, hsl, h.g.nw0⟩)
  have HT := Lib.hid htid
  obtain ⟨q1, q2, q3, q4⟩ := Q.out.s hac
  have x17 : w.cell? ⟨i.x, 17, none⟩ = some (.map (some i.bq)) := co_cell h.g.box rfl
  obtain ⟨n1, hn1⟩ : ∃ n, c.kn + 1 = n := ⟨_, rfl⟩
  have y8 : w.cell? ⟨x.qb, 8, none⟩ = some (.slice (some ⟨x.sb, 0, none⟩) n1 x.sc) := by
    have h1 : w.cell? ⟨x.qb, 8, none⟩ = some (.slice x.sa x.sn x.sc) := co_cell Q.out.b rfl
    rw [q1, q2, hsl, hn1] at h1; exact h1
  have hlt : sh < n1 := by rw [← hn1]; exact hsh
  have S0 := Lib.hid (show Below w.heap.size w w.drew ∧ w.drew.cell? ⟨i.x, 16, none⟩ = some (.pointer (some ⟨i.bt, 0, none⟩)) from ⟨(Below.refl _ _).drew, co_cell h.g.box rfl⟩)
  have MQ := Lib.hid h.g.Q
  obtain ⟨sS, hsS⟩ : ∃ z, seeS c W C si j sh draw s = z := ⟨_, rfl⟩
  obtain ⟨lL, hlL⟩ : ∃ z, seeL c W C si j sh draw s = z := ⟨_, rfl⟩
  rw [hsS] at HSS HSL
  rw [hlL] at HSL
  rw [hsS, hlL, hid]
  clear h hg hj hn hsh hC hsi hac hP hsl hid htid hx hX hav hab hsS hlL hk ht hcT q1 q2 q3 q4
  go_enter Tryz.func42, Tryz.ntmps42
  go_upto_region 2 with (first | (at_lookup; refine wpList_get_mv mapTq rfl (.tmp 17) (.tmp 18) rfl rfl MQ.out id rfl wf (.pointer (some ⟨x.qb, 0, none⟩)) (by rw [FQ.out]; rfl) ?_) | fail)
  go_region_held3 (fun w' => Below w.heap.size w w' ∧ w'.cell? ⟨i.x, 16, none⟩ = some (.pointer (some ⟨i.bt, 0, none⟩)))
    (first | assumption | exact S0.out | exact atG_carry (by assumption) (by assumption))
    (first
      | (go_at_call 62; refine (CTi.out _).mono ?_; rintro e w2 ⟨rfl, rfl⟩)
      | (go_at_call 68; refine (CT.out _ (And.left (by assumption))).mono ?_; rintro e w3 ⟨rfl, hb3⟩))
  rename_i T5
  have B3 := Lib.hid (show Below w.heap.size w w3 from T5.1)
  clear T5 hb3 x17 y8 S0 CT MQ
  have C3 := Lib.hid (C0.out.below B3.out)
  have E3 := Lib.hid ((ExtG.refl w col).below B3.out)
  have hab : ab = true := by
    have := HK.out
    cases ab
    · simp at this
    · rfl
  subst hab
  have hav : av ≤ s.now := by
    have h := HK.out
    rw [if_neg (by decide)] at h
    by_cases e : av ≤ s.now
    · exact e
    · rw [if_neg e] at h; split at h <;> simp at h
  have hd : decide (av ≤ s.now) = true := decide_eq_true hav
  have hshl : sh < (s.qs.getD j q0).sh.length := by rw [PR.out.2.2.2.2.2.2.2.2.1]; exact PR.out.2.2.2.1
  obtain ⟨s0, s1, s2, s3, z0⟩ := shard_cells C3.out (sh := sh) PR.out.2.1 PR.out.2.2.2.2.2.2.1 hshl
  rw [HX.out, HXX.out] at s0 s1 s2 s3
  rw [HX.out] at z0
  have hsh3 : w3.heap[x.sb]? = some (.cells (shV (s.qs.getD j q0).sh).toArray 143 (0, 0)) := by rw [← HX.out]; exact ((C3.out.q j PR.out.2.1).s PR.out.2.2.2.2.2.2.1).2.2.1
  have HSH3 := Lib.hid hsh3
  have HSHL := Lib.hid hshl
  have hgx : (s.qs.getD j q0).sh.getD sh sh0 = X := HXX.out
  have HGX := Lib.hid hgx
  have x13 : w3.cell? ⟨i.x, 13, none⟩ = some (.int .i64 s.now) := co_cell C3.out.g.box rfl
  clear hsh3 hshl hgx
  obtain ⟨tr, htr⟩ : ∃ z, tryAfter X.tr = z := ⟨_, rfl⟩
  have HTR := Lib.hid htr
  obtain ⟨tuN, htuN⟩ : ∃ z, X.tu + 1 = z := ⟨_, rfl⟩
  have HTU := Lib.hid htuN
  have HTN := Lib.hid (show tuN ≤ 1000000000 from by omega)
  have etu : IntKind.i64.wrap ((X.tu : Int) + 1) = (tuN : Int) := by rw [IntKind.wrap_i64]; omega
  have CTr := Lib.hid (fun w' => (show Calls Tryz.prog 70 #[.int .i64 X.tr] w' fun e w'' => e = .returned (.int .i64 tr) ∧ w' = w'' from htr ▸ try_any X.tr w'))
  clear htr htuN hbd hav
  have z1 := z0 (sh * 4 + 1)
  go_upto_region 8 with (first | (go_at_call 70; refine (CTr.out _).mono ?_; rintro e w2 ⟨rfl, rfl⟩) | fail)
  have y0 : (w3.setCell ⟨x.sb, sh * 4 + 1, none⟩ (.int .i64 tr)).cell? ⟨x.sb, sh * 4, none⟩ = some (.int .i64 (X.tu : Int)) := (set_ne (by omega)).trans s0
  have y1 : (w3.setCell ⟨x.sb, sh * 4 + 1, none⟩ (.int .i64 tr)).frozen? ⟨x.sb, sh * 4, none⟩ = false := by simp [z0]
  go_upto_region 12 with fail
  have C4 := C3.out
  have E4 := E3.out
  have T4 := (tq_ok _ _ _).below TW.out B3.out
  have t5 : Turn (fun k => k = x.sb) w3 ((w3.setCell ⟨x.sb, sh * 4 + 1, none⟩ (.int .i64 tr)).setCell ⟨x.sb, sh * 4, none⟩ (.int .i64 (tuN : Int))) := (Turn.setCell (F := fun k => k = x.sb) rfl).trans (Turn.setCell (F := fun k => k = x.sb) rfl)
  have h5 : ((w3.setCell ⟨x.sb, sh * 4 + 1, none⟩ (.int .i64 tr)).setCell ⟨x.sb, sh * 4, none⟩ (.int .i64 (tuN : Int))).heap[x.sb]? = some (.cells (shV ((s.qs.getD j q0).sh.set sh ⟨tuN, tr, X.sk, X.he⟩)).toArray 143 (0, 0)) := by
    have e := shV_set2 (s.qs.getD j q0).sh sh tuN tr HSHL.out
    rw [HGX.out] at e
    rw [Go.heap_setCell_same _ x.sb _ _ _ _ (Go.heap_setCell_same w3 x.sb _ _ _ _ HSH3.out), List.setIfInBounds_toArray, List.setIfInBounds_toArray]
    exact congrArg (fun l : List Value => some (Obj.cells l.toArray 143 (0, 0))) e
  clear s0 s1 s2 s3 z0 z1 x13 y0 y1 etu hd
  generalize (w3.setCell ⟨x.sb, sh * 4 + 1, none⟩ (.int .i64 tr)).setCell ⟨x.sb, sh * 4, none⟩ (.int .i64 (tuN : Int)) = w5 at *
  have HXE := Lib.hid (show nextSh X = ⟨tuN, tr, X.sk, X.he⟩ from by unfold nextSh; rw [HTU.out, HTR.out])
  obtain ⟨iq5, hC5, hsb5, hE5⟩ := C4.shards PR.out.2.1 PR.out.2.2.2.2.2.2.1 ((s.qs.getD j q0).sh.set sh ⟨tuN, tr, X.sk, X.he⟩) List.length_set (by rw [HX.out]; exact t5) (by rw [HX.out]; exact h5)
  have hshl : sh < (s.qs.getD j q0).sh.length := by rw [PR.out.2.2.2.2.2.2.2.2.1]; exact PR.out.2.2.2.1
  have hat := putSh_at s j sh ⟨tuN, tr, X.sk, X.he⟩ PR.out.2.1
  have hsf := shOf_put ⟨tuN, tr, X.sk, X.he⟩ PR.out.2.1 hshl
  have hln : (putSh s j sh ⟨tuN, tr, X.sk, X.he⟩).qs.length = s.qs.length := List.length_set
  obtain ⟨s1, hs1⟩ : ∃ z, putSh s j sh ⟨tuN, tr, X.sk, X.he⟩ = z := ⟨_, rfl⟩
  have C5 := Lib.hid (show CoX B0 w5 col i c W C s1 iq5 from hs1 ▸ hC5)
  have E5 := Lib.hid (E4.trans hE5)
  have HEQ := Lib.hid hs1
  have hnow : s1.now = s.now := by rw [← hs1]; rfl
  have hlsE : s1.ls = s.ls := by rw [← hs1]; rfl
  rw [hs1] at hat hsf hln
  have Y1 := Lib.hid (show j < s1.qs.length ∧ (s1.qs.getD j q0).ac = true ∧ sh < (s1.qs.getD j q0).sh.length ∧ (GoodL s1.ls ∧ s1.qs.length ≤ 1000000 ∧ si ≤ 4) ∧ (s1.qs.getD j q0).P.length ≤ 1000 ∧ (iq5 j).sb = x.sb ∧ (shOf s1 j sh).tr = tr ∧ s1.now = s.now ∧ (shOf s1 j sh).tu = tuN from
    ⟨by rw [hln]; exact PR.out.2.1, by rw [hat]; exact PR.out.2.2.2.2.2.2.1, by rw [hat]; dsimp only; rw [List.length_set]; exact hshl, ⟨by rw [hlsE]; exact PR.out.1, by rw [hln]; exact PR.out.2.2.1, PR.out.2.2.2.2.2.1⟩, by rw [hat]; exact PR.out.2.2.2.2.2.2.2.1, by rw [hsb5, HX.out], by rw [hsf], hnow, by rw [hsf]⟩)
  have T5 := Lib.hid ((tq_ok _ _ _).turn T4 t5 (fun k hk e => by have h1 := HC.out k hk; have h2 := ((C0.out.q j PR.out.2.1).s PR.out.2.2.2.2.2.2.1).2.2.2; rw [HX.out, ← e] at h2; omega))
  clear hC5 hsb5 hE5 hshl hat hsf hln hs1 hnow hlsE t5 h5 C4 E4 T4
  have HS := Lib.hid (fun (w' : World) (col'' : Nat → Nat) (M' : List TM) (hx : CoX B0 w' col'' i c W C { s1 with M := M' } iq5) => (show w'.cell? ⟨i.x, 16, none⟩ = some (.pointer (some ⟨i.bt, 0, none⟩)) ∧ w'.cell? ⟨i.x, 13, none⟩ = some (.int .i64 s.now) ∧ w'.cell? ⟨i.x, 0, none⟩ = some (.slice none 0 0) ∧ w'.cell? ⟨i.x, 1, none⟩ = some (.slice i.ka c.kn i.kc) ∧ w'.cell? ⟨i.x, 2, none⟩ = some (.int .i64 c.W) ∧ w'.cell? ⟨i.x, 3, none⟩ = some (.int .i64 c.C) ∧ w'.cell? ⟨i.x, 4, none⟩ = some (.int .i64 c.S) ∧ w'.cell? ⟨i.x, 5, none⟩ = some (.int .i64 c.B) ∧ w'.cell? ⟨i.x, 6, none⟩ = some (.int .i64 c.L) ∧ w'.cell? ⟨i.x, 7, none⟩ = some (.int .i64 c.H) ∧ w'.cell? ⟨i.x, 8, none⟩ = some (.int .i64 c.F) ∧ w'.cell? ⟨i.x, 9, none⟩ = some (.int .i64 c.P) ∧ w'.cell? ⟨i.x, 10, none⟩ = some (.int .i64 c.J) ∧ w'.cell? ⟨i.x, 11, none⟩ = some (.int .i64 c.N) ∧ w'.cell? ⟨x.sb, sh * 4 + 1, none⟩ = some (.int .i64 tr) from by
    have hs := shard_cells hx (j := j) (sh := sh) Y1.out.1 Y1.out.2.1 Y1.out.2.2.1
    rw [Y1.out.2.2.2.2.2.1] at hs
    have hs1 : w'.cell? ⟨x.sb, sh * 4 + 1, none⟩ = some (.int .i64 (shOf s1 j sh).tr) := hs.2.1
    rw [Y1.out.2.2.2.2.2.2.1] at hs1
    refine ⟨co_cell hx.g.box rfl, ?_, co_cell hx.g.box rfl, co_cell hx.g.box rfl, co_cell hx.g.box rfl, co_cell hx.g.box rfl, co_cell hx.g.box rfl, co_cell hx.g.box rfl, co_cell hx.g.box rfl, co_cell hx.g.box rfl, co_cell hx.g.box rfl, co_cell hx.g.box rfl, co_cell hx.g.box rfl, co_cell hx.g.box rfl, ?_⟩
    · have := co_cell (i := 13) hx.g.box rfl
      dsimp only at this
      rw [Y1.out.2.2.2.2.2.2.2.1] at this; exact this
    · exact hs1))
  have S0 := Lib.hid (HS.out w5.drew col s1.M (C5.out.below (Below.refl _ _).drew))
  obtain ⟨wv, hwv⟩ : ∃ z, waitV c.F c.P c.J tr draw = z := ⟨_, rfl⟩
  have HWV := Lib.hid hwv
  have hwb := waitV_bd c.F c.P c.J tr draw
  rw [hwv] at hwb
  obtain ⟨a2, ha2⟩ : ∃ z, s.now + wv = z := ⟨_, rfl⟩
  have eadd : IntKind.i64.wrap (s.now + wv) = a2 := by have := PR.out.2.2.2.2.2.2.2.2.2; rw [IntKind.wrap_i64]; omega
  have HA2 := Lib.hid ha2
  clear ha2 hwb
  have CW := Lib.hid (fun w' => (show Calls Tryz.prog 73 #[.agg #[.slice none 0 0, .slice i.ka c.kn i.kc, .int .i64 c.W, .int .i64 c.C, .int .i64 c.S, .int .i64 c.B, .int .i64 c.L, .int .i64 c.H, .int .i64 c.F, .int .i64 c.P, .int .i64 c.J, .int .i64 c.N], .int .i64 tr, .int .i64 draw] w' fun e w'' => e = .returned (.int .i64 wv) ∧ Below w'.heap.size w' w'' from hwv ▸ wait_any _ _ _ _ _ _ _ _ _ c.F c.P c.J tr draw w'))
  clear hwv
  have CSet := Lib.hid (fun w' (h : TQ i.bt 24 s.M w' St) => tSet_any i.bt 24 s.M tid a2 St w' h (by decide))
  go_region_held3 (fun w' => w'.cell? ⟨i.x, 16, none⟩ = some (.pointer (some ⟨i.bt, 0, none⟩)) ∧ w'.cell? ⟨i.x, 13, none⟩ = some (.int .i64 s.now) ∧ w'.cell? ⟨i.x, 0, none⟩ = some (.slice none 0 0) ∧ w'.cell? ⟨i.x, 1, none⟩ = some (.slice i.ka c.kn i.kc) ∧ w'.cell? ⟨i.x, 2, none⟩ = some (.int .i64 c.W) ∧ w'.cell? ⟨i.x, 3, none⟩ = some (.int .i64 c.C) ∧ w'.cell? ⟨i.x, 4, none⟩ = some (.int .i64 c.S) ∧ w'.cell? ⟨i.x, 5, none⟩ = some (.int .i64 c.B) ∧ w'.cell? ⟨i.x, 6, none⟩ = some (.int .i64 c.L) ∧ w'.cell? ⟨i.x, 7, none⟩ = some (.int .i64 c.H) ∧ w'.cell? ⟨i.x, 8, none⟩ = some (.int .i64 c.F) ∧ w'.cell? ⟨i.x, 9, none⟩ = some (.int .i64 c.P) ∧ w'.cell? ⟨i.x, 10, none⟩ = some (.int .i64 c.J) ∧ w'.cell? ⟨i.x, 11, none⟩ = some (.int .i64 c.N) ∧ w'.cell? ⟨x.sb, sh * 4 + 1, none⟩ = some (.int .i64 tr))
    (first | assumption | exact S0.out)
    (first
      | (go_at_call 62; refine (CTi.out _).mono ?_; rintro e w2 ⟨rfl, rfl⟩)
      | (go_at_call 73; refine (CW.out _).mono ?_; rintro e w6 ⟨rfl, hb6⟩; have hb56 : Below w5.heap.size w5 w6 := (Below.refl w5.heap.size w5).drew.trans hb6; have S6 := HS.out w6 col s1.M (C5.out.below hb56))
      | (go_at_call 72; refine (CSet.out _ ((tq_ok _ _ _).below T5.out hb56)).mono ?_; rintro e w7 ⟨rfl, hP⟩; have S7 := HS.out w7 _ _ ((C5.out.below hb56).timers HC.out hP).1))
  have C7 := Lib.hid ((C5.out.below hb56).timers HC.out hP).1
  have E7 := Lib.hid ((E5.out.below hb56).trans ((C5.out.below hb56).timers HC.out hP).2)
  obtain ⟨col7, hcol7⟩ : ∃ z, newCol w6 w7 3 col = z := ⟨_, rfl⟩
  rw [hcol7] at C7 E7
  clear hcol7 hP S6 S7 hb56 hb6 S0 CSet CW HS eadd
  have s0 : w7.cell? ⟨x.sb, sh * 4, none⟩ = some (.int .i64 (tuN : Int)) := by
    have hs := (shard_cells C7.out (j := j) (sh := sh) Y1.out.1 Y1.out.2.1 Y1.out.2.2.1).1
    rw [Y1.out.2.2.2.2.2.1] at hs
    have hs1 : w7.cell? ⟨x.sb, sh * 4, none⟩ = some (.int .i64 ((shOf s1 j sh).tu : Int)) := hs
    rw [Y1.out.2.2.2.2.2.2.2.2] at hs1
    exact hs1
  have HS2 := Lib.hid (show sS = { s1 with M := setM 24 s.M tid a2 } from by
    rw [HSS.out, HXE.out]
    unfold askAt
    rw [HEQ.out, ← HA2.out, ← HWV.out, show idT si sh = tid from HT.out])
  have CA := Lib.hid (show Calls Tryz.prog 71 #[.pointer (some ⟨i.x, 0, none⟩), .int .i64 (si : Int), .int .i64 id, .int .i64 (sh : Int), .int .i64 (tuN : Int)] w7 (RetLs w7 lL) from by
    rw [HSL.out, HTU.out, ← HID.out, HS2.out]
    exact gAsk_any si j sh tuN w7 C7.out Y1.out.2.2.2.1.1 Y1.out.1 Y1.out.2.2.2.1.2.1 PR.out.2.2.2.1 PR.out.2.2.2.2.1 HTN.out PR.out.2.2.2.2.2.1 Y1.out.2.1 Y1.out.2.2.2.2.1)
  go_wp2_with fail
  refine CA.out.mono ?_
  rintro e w8 ⟨a, cc, rfl, ho, hb8⟩
  have FIN := Lib.hid (show RetC B0 w col i c W C sS lL (.returned (.slice a lL.length cc)) w8 from by
    rw [HS2.out]
    exact ⟨col7, iq5, a, cc, rfl, C7.out.below hb8, E7.out.below hb8, base_less24 ho E7.out.1.size, fun g hg => C7.out.g.nw g (ho.lt g (by rw [hg]; rfl)).1⟩)
  clear ho hb8
  go_wp2_with fail
  go_ret
  exact FIN.out
end
end Go.Proofs.YtblipdmagfiigaaGreat
namespace Go.Proofs.YtblipdmagfiigaaGreat
open Go.RowKit
set_option linter.unusedVariables false
set_option maxRecDepth 20000
section
variable {B0 : Nat} {w w' : World} {col col' : Nat → Nat} {i : CoI} {c : Cfg} {W C : Nat} {s : Cs} {iq : Nat → QI} {F : Nat → Prop}
set_option maxRecDepth 100000 in
set_option maxHeartbeats 3200000 in
theorem gSee_2 (si j sh : Nat) (draw : Int) (w : World) (h : CoX B0 w col i c W C s iq) (hg : GoodL s.ls) (hj : j < s.qs.length) (hn : s.qs.length ≤ 1000000) (hsh : sh < c.kn + 1) (hC : 0 < C ∧ C ≤ 3) (hsi : si ≤ 4) (hac : (s.qs.getD j q0).ac = true) (hP : (s.qs.getD j q0).P.length ≤ 1000) (hsl : (s.qs.getD j q0).sh.length = c.kn + 1)
    (hbd : (shOf s j sh).tu ≤ 100000000 ∧ -1000000000 ≤ (shOf s j sh).sk ∧ (shOf s j sh).sk ≤ 1000000000) (hk : seeK c si j sh s = 2) :
    Calls Tryz.prog 42 #[.pointer (some ⟨i.x, 0, none⟩), .int .i64 (si : Int), .int .i64 ((j + 1 : Nat) : Int), .int .i64 (sh : Int), .int .i64 draw] w (RetC B0 w col i c W C (seeS c W C si j sh draw s) (seeL c W C si j sh draw s)) := by
  obtain ⟨id, hid⟩ : ∃ z : Int, ((j + 1 : Nat) : Int) = z := ⟨_, rfl⟩
  obtain ⟨tid, htid⟩ : ∃ z : Int, ((6 * si + sh : Nat) : Int) = z := ⟨_, rfl⟩
  obtain ⟨x, hx⟩ : ∃ x, iq j = x := ⟨_, rfl⟩
  obtain ⟨X, hX⟩ : ∃ y, shOf s j sh = y := ⟨_, rfl⟩
  obtain ⟨av, hav⟩ : ∃ v, (atM s.M tid).getD 0 = v := ⟨_, rfl⟩
  obtain ⟨ab, hab⟩ : ∃ v, (atM s.M tid).isSome = v := ⟨_, rfl⟩
  have HSS := Lib.hid (show seeS c W C si j sh draw s = putSh s j sh (hedSh X) from by unfold seeS; rw [hk]; rw [← hX]; rfl)
  have HSL := Lib.hid (show seeL c W C si j sh draw s = askL c W C si j sh (X.tu + 1) (seeS c W C si j sh draw s) from by unfold seeL; rw [hk]; rw [← hX]; rfl)
  have HK := Lib.hid (show (if ab = false then 0 else if av ≤ s.now then 1 else if X.he = false ∧ c.H ≤ s.now - X.sk then 2 else 3) = 2 from by
    have h1 := hk
    unfold seeK at h1
    rw [show idT si sh = tid from htid, hav, hab, hX] at h1
    exact h1)
  rw [hX] at hbd
  have HID := Lib.hid hid
  have HX := Lib.hid hx; have HXX := Lib.hid hX
  have C0 := Lib.hid h
  have Q := Lib.hid (show QAtG w col B0 (10 + 4 * j) id (s.qs.getD j q0) x from by rw [← hx, ← hid]; exact h.q j hj)
  have FQ := Lib.hid (show qmG iq s.qs.length id = some (.pointer (some ⟨x.qb, 0, none⟩)) from by rw [← hid, ← hx]; exact qmG_at iq _ j hj)
  have wf : wfI id := by unfold wfI; exact wf64 (by omega)
  obtain ⟨St, ht, hcT⟩ := h.g.T
  have HC := Lib.hid hcT
  have TW := Lib.hid ht
  have CT := Lib.hid (fun w' (hb : Below w.heap.size w w') => (show Calls Tryz.prog 68 #[.pointer (some ⟨i.bt, 0, none⟩), .int .i64 tid] w' fun e w'' => e = .returned (.tuple #[.int .i64 av, .bool ab]) ∧ Below w'.heap.size w' w'' from by
    have h1 := tAt_g i.bt 24 s.M tid St w' ((tq_ok _ _ _).below ht hb)
    rw [hav, hab] at h1
    exact h1))
  have CTi := Lib.hid (fun w' => (show Calls Tryz.prog 62 #[.int .i64 (si : Int), .int .i64 (sh : Int)] w' fun e w'' => e = .returned (.int .i64 tid) ∧ w' = w'' from htid ▸ timerOf_any si sh w' (by have := h.g.hk; omega)))
  have PR := Lib.hid (show GoodL s.ls ∧ j < s.qs.length ∧ s.qs.length ≤ 1000000 ∧ sh < c.kn + 1 ∧ (0 < C ∧ C ≤ 3) ∧ si ≤ 4 ∧ (s.qs.getD j q0).ac = true ∧ (s.qs.getD j q0).P.length ≤ 1000 ∧ (s.qs.getD j q0).sh.length = c.kn + 1 ∧ (0 ≤ s.now ∧ s.now ≤ 1000000) from ⟨hg, hj, hn, hsh, hC, hsi, hac, hP, hsl, h.g.nw0⟩)
  have HT := Lib.hid htid
  obtain ⟨q1, q2, q3, q4⟩ := Q.out.s hac
  have x17 : w.cell? ⟨i.x, 17, none⟩ = some (.map (some i.bq)) := co_cell h.g.box rfl
  obtain ⟨n1, hn1⟩ : ∃ n, c.kn + 1 = n := ⟨_, rfl⟩
  have y8 : w.cell? ⟨x.qb, 8, none⟩ = some (.slice (some ⟨x.sb, 0, none⟩) n1 x.sc) := by
    have h1 : w.cell? ⟨x.qb, 8, none⟩ = some (.slice x.sa x.sn x.sc) := co_cell Q.out.b rfl
    rw [q1, q2, hsl, hn1] at h1; exact h1
  have hlt : sh < n1 := by rw [← hn1]; exact hsh
  have S0 := Lib.hid (show Below w.heap.size w w.drew ∧ w.drew.cell? ⟨i.x, 16, none⟩ = some (.pointer (some ⟨i.bt, 0, none⟩)) from ⟨(Below.refl _ _).drew, co_cell h.g.box rfl⟩)
  have MQ := Lib.hid h.g.Q
  obtain ⟨sS, hsS⟩ : ∃ z, seeS c W C si j sh draw s = z := ⟨_, rfl⟩
  obtain ⟨lL, hlL⟩ : ∃ z, seeL c W C si j sh draw s = z := ⟨_, rfl⟩
  rw [hsS] at HSS HSL
  rw [hlL] at HSL
  rw [hsS, hlL, hid]
  clear h hg hj hn hsh hC hsi hac hP hsl hid htid hx hX hav hab hsS hlL hk ht hcT q1 q2 q3 q4
  go_enter Tryz.func42, Tryz.ntmps42
  go_upto_region 2 with (first | (at_lookup; refine wpList_get_mv mapTq rfl (.tmp 17) (.tmp 18) rfl rfl MQ.out id rfl wf (.pointer (some ⟨x.qb, 0, none⟩)) (by rw [FQ.out]; rfl) ?_) | fail)
  go_region_held3 (fun w' => Below w.heap.size w w' ∧ w'.cell? ⟨i.x, 16, none⟩ = some (.pointer (some ⟨i.bt, 0, none⟩)))
    (first | assumption | exact S0.out | exact atG_carry (by assumption) (by assumption))
    (first
      | (go_at_call 62; refine (CTi.out _).mono ?_; rintro e w2 ⟨rfl, rfl⟩)
      | (go_at_call 68; refine (CT.out _ (And.left (by assumption))).mono ?_; rintro e w3 ⟨rfl, hb3⟩))
  rename_i T5
  have B3 := Lib.hid (show Below w.heap.size w w3 from T5.1)
  clear T5 hb3 x17 y8 S0 CT MQ
  have C3 := Lib.hid (C0.out.below B3.out)
  have E3 := Lib.hid ((ExtG.refl w col).below B3.out)
  have hab : ab = true := by
    have := HK.out
    cases ab
    · simp at this
    · rfl
  subst hab
  have hav : ¬ av ≤ s.now := by
    have h := HK.out
    rw [if_neg (by decide)] at h
    intro e
    rw [if_pos e] at h
    simp at h
  have hd : decide (av ≤ s.now) = false := decide_eq_false hav
  have x7 : w3.cell? ⟨i.x, 7, none⟩ = some (.int .i64 c.H) := co_cell C3.out.g.box rfl
  obtain ⟨d, hdd⟩ : ∃ z, s.now - X.sk = z := ⟨_, rfl⟩
  have esub : IntKind.i64.wrap (s.now - X.sk) = d := by have := PR.out.2.2.2.2.2.2.2.2.2; rw [IntKind.wrap_i64]; omega
  have hshl : sh < (s.qs.getD j q0).sh.length := by rw [PR.out.2.2.2.2.2.2.2.2.1]; exact PR.out.2.2.2.1
  obtain ⟨s0, s1, s2, s3, z0⟩ := shard_cells C3.out (sh := sh) PR.out.2.1 PR.out.2.2.2.2.2.2.1 hshl
  rw [HX.out, HXX.out] at s0 s1 s2 s3
  rw [HX.out] at z0
  have hsh3 : w3.heap[x.sb]? = some (.cells (shV (s.qs.getD j q0).sh).toArray 143 (0, 0)) := by rw [← HX.out]; exact ((C3.out.q j PR.out.2.1).s PR.out.2.2.2.2.2.2.1).2.2.1
  have HSH3 := Lib.hid hsh3
  have HSHL := Lib.hid hshl
  have hgx : (s.qs.getD j q0).sh.getD sh sh0 = X := HXX.out
  have HGX := Lib.hid hgx
  have x13 : w3.cell? ⟨i.x, 13, none⟩ = some (.int .i64 s.now) := co_cell C3.out.g.box rfl
  clear hsh3 hshl hgx
  have hc : X.he = false ∧ c.H ≤ d := by
    have h := HK.out
    rw [if_neg (by decide), if_neg hav, hdd] at h
    by_cases e : X.he = false ∧ c.H ≤ d
    · exact e
    · rw [if_neg e] at h; simp at h
  have hge : decide (d ≥ c.H) = true := decide_eq_true hc.2
  obtain ⟨tuN, htuN⟩ : ∃ z, X.tu + 1 = z := ⟨_, rfl⟩
  have HTU := Lib.hid htuN
  have HTN := Lib.hid (show tuN ≤ 1000000000 from by omega)
  have etu : IntKind.i64.wrap ((X.tu : Int) + 1) = (tuN : Int) := by rw [IntKind.wrap_i64]; omega
  rw [hc.1] at s3
  clear htuN hbd hav hc hdd
  go_upto_region 9 with fail
  go_quiet (fail)
  go_upto_region 10 with fail
  generalize hw4 : w3.drewN _ = w4 at *
  have hb34 : Below w3.heap.size w3 w4 := hw4 ▸ below_drewN w3 _
  clear hw4 s0 s1 s2 s3 z0 x13 x7 esub hge hd
  have C4 := C3.out.below hb34
  have E4 := E3.out.below hb34
  obtain ⟨s0, s1, s2, s3, z0⟩ := shard_cells C4 (sh := sh) PR.out.2.1 PR.out.2.2.2.2.2.2.1 HSHL.out
  rw [HX.out, HXX.out] at s0 s1 s2 s3
  rw [HX.out] at z0
  have z3 := z0 (sh * 4 + 3)
  have hsh4 : w4.heap[x.sb]? = some (.cells (shV (s.qs.getD j q0).sh).toArray 143 (0, 0)) := (hb34.block x.sb (Array.getElem?_eq_some_iff.1 HSH3.out).1).trans HSH3.out
  have t5 : Turn (fun k => k = x.sb) w4 (w4.setCell ⟨x.sb, sh * 4 + 3, none⟩ (.bool true)) := Turn.setCell rfl
  have h5 : (w4.setCell ⟨x.sb, sh * 4 + 3, none⟩ (.bool true)).heap[x.sb]? = some (.cells (shV ((s.qs.getD j q0).sh.set sh ⟨X.tu, X.tr, X.sk, true⟩)).toArray 143 (0, 0)) := by
    have e := shV_set3 (s.qs.getD j q0).sh sh true HSHL.out
    rw [HGX.out] at e
    rw [Go.heap_setCell_same w4 x.sb _ _ _ _ hsh4, List.setIfInBounds_toArray]
    exact congrArg (fun l : List Value => some (Obj.cells l.toArray 143 (0, 0))) e
  go_upto_region 11 with fail
  clear s0 s1 s2 s3 z0 z3 hsh4 hb34
  generalize w4.setCell ⟨x.sb, sh * 4 + 3, none⟩ (.bool true) = w5 at *
  obtain ⟨iq5, hC5, hsb5, hE5⟩ := C4.shards PR.out.2.1 PR.out.2.2.2.2.2.2.1 ((s.qs.getD j q0).sh.set sh ⟨X.tu, X.tr, X.sk, true⟩) List.length_set (by rw [HX.out]; exact t5) (by rw [HX.out]; exact h5)
  have hat := putSh_at s j sh ⟨X.tu, X.tr, X.sk, true⟩ PR.out.2.1
  have hsf := shOf_put ⟨X.tu, X.tr, X.sk, true⟩ PR.out.2.1 HSHL.out
  have hln : (putSh s j sh ⟨X.tu, X.tr, X.sk, true⟩).qs.length = s.qs.length := List.length_set
  have HS2 := Lib.hid (show sS = putSh s j sh ⟨X.tu, X.tr, X.sk, true⟩ from HSS.out)
  obtain ⟨s1, hs1⟩ : ∃ z, putSh s j sh ⟨X.tu, X.tr, X.sk, true⟩ = z := ⟨_, rfl⟩
  have C5 := Lib.hid (show CoX B0 w5 col i c W C s1 iq5 from hs1 ▸ hC5)
  have E5 := Lib.hid (E4.trans hE5)
  have hlsE : s1.ls = s.ls := by rw [← hs1]; rfl
  rw [hs1] at hat hsf hln HS2
  have s0 : w5.cell? ⟨x.sb, sh * 4, none⟩ = some (.int .i64 (X.tu : Int)) := by
    have hs := (shard_cells C5.out (j := j) (sh := sh) (by rw [hln]; exact PR.out.2.1) (by rw [hat]; exact PR.out.2.2.2.2.2.2.1) (by rw [hat]; dsimp only; rw [List.length_set]; exact HSHL.out)).1
    rw [hsb5, HX.out, hsf] at hs
    exact hs
  have CA := Lib.hid (show Calls Tryz.prog 71 #[.pointer (some ⟨i.x, 0, none⟩), .int .i64 (si : Int), .int .i64 id, .int .i64 (sh : Int), .int .i64 (tuN : Int)] w5 (RetLs w5 lL) from by
    rw [HSL.out, HTU.out, ← HID.out, HS2.out]
    exact gAsk_any si j sh tuN w5 C5.out (by rw [hlsE]; exact PR.out.1) (by rw [hln]; exact PR.out.2.1) (by rw [hln]; exact PR.out.2.2.1) PR.out.2.2.2.1 PR.out.2.2.2.2.1 HTN.out PR.out.2.2.2.2.2.1 (by rw [hat]; exact PR.out.2.2.2.2.2.2.1) (by rw [hat]; exact PR.out.2.2.2.2.2.2.2.1))
  clear hC5 hsb5 hE5 hat hsf hln hs1 hlsE t5 h5 C4 E4
  go_wp2_with fail
  refine CA.out.mono ?_
  rintro e w8 ⟨a, cc, rfl, ho, hb8⟩
  have FIN := Lib.hid (show RetC B0 w col i c W C sS lL (.returned (.slice a lL.length cc)) w8 from by
    rw [HS2.out]
    exact ⟨col, iq5, a, cc, rfl, C5.out.below hb8, E5.out.below hb8, base_less24 ho E5.out.1.size, fun g hg => C5.out.g.nw g (ho.lt g (by rw [hg]; rfl)).1⟩)
  clear ho hb8
  go_wp2_with fail
  go_ret
  exact FIN.out
set_option maxRecDepth 100000 in
set_option maxHeartbeats 3200000 in
theorem gSee_3 (si j sh : Nat) (draw : Int) (w : World) (h : CoX B0 w col i c W C s iq) (hg : GoodL s.ls) (hj : j < s.qs.length) (hn : s.qs.length ≤ 1000000) (hsh : sh < c.kn + 1) (hC : 0 < C ∧ C ≤ 3) (hsi : si ≤ 4) (hac : (s.qs.getD j q0).ac = true) (hP : (s.qs.getD j q0).P.length ≤ 1000) (hsl : (s.qs.getD j q0).sh.length = c.kn + 1)
    (hbd : (shOf s j sh).tu ≤ 100000000 ∧ -1000000000 ≤ (shOf s j sh).sk ∧ (shOf s j sh).sk ≤ 1000000000) (hk : seeK c si j sh s = 3) :
    Calls Tryz.prog 42 #[.pointer (some ⟨i.x, 0, none⟩), .int .i64 (si : Int), .int .i64 ((j + 1 : Nat) : Int), .int .i64 (sh : Int), .int .i64 draw] w (RetC B0 w col i c W C (seeS c W C si j sh draw s) (seeL c W C si j sh draw s)) := by
  obtain ⟨id, hid⟩ : ∃ z : Int, ((j + 1 : Nat) : Int) = z := ⟨_, rfl⟩
  obtain ⟨tid, htid⟩ : ∃ z : Int, ((6 * si + sh : Nat) : Int) = z := ⟨_, rfl⟩
  obtain ⟨x, hx⟩ : ∃ x, iq j = x := ⟨_, rfl⟩
  obtain ⟨X, hX⟩ : ∃ y, shOf s j sh = y := ⟨_, rfl⟩
  obtain ⟨av, hav⟩ : ∃ v, (atM s.M tid).getD 0 = v := ⟨_, rfl⟩
  obtain ⟨ab, hab⟩ : ∃ v, (atM s.M tid).isSome = v := ⟨_, rfl⟩
  have HSS := Lib.hid (show seeS c W C si j sh draw s = s from by unfold seeS; rw [hk]; rfl)
  have HSL := Lib.hid (show seeL c W C si j sh draw s = [] from by unfold seeL; rw [hk]; rfl)
  have HK := Lib.hid (show (if ab = false then 0 else if av ≤ s.now then 1 else if X.he = false ∧ c.H ≤ s.now - X.sk then 2 else 3) = 3 from by
    have h1 := hk
    unfold seeK at h1
    rw [show idT si sh = tid from htid, hav, hab, hX] at h1
    exact h1)
  rw [hX] at hbd
  have HID := Lib.hid hid
  have HX := Lib.hid hx; have HXX := Lib.hid hX
  have C0 := Lib.hid h
  have Q := Lib.hid (show QAtG w col B0 (10 + 4 * j) id (s.qs.getD j q0) x from by rw [← hx, ← hid]; exact h.q j hj)
  have FQ := Lib.hid (show qmG iq s.qs.length id = some (.pointer (some ⟨x.qb, 0, none⟩)) from by rw [← hid, ← hx]; exact qmG_at iq _ j hj)
  have wf : wfI id := by unfold wfI; exact wf64 (by omega)
  obtain ⟨St, ht, hcT⟩ := h.g.T
  have HC := Lib.hid hcT
  have TW := Lib.hid ht
  have CT := Lib.hid (fun w' (hb : Below w.heap.size w w') => (show Calls Tryz.prog 68 #[.pointer (some ⟨i.bt, 0, none⟩), .int .i64 tid] w' fun e w'' => e = .returned (.tuple #[.int .i64 av, .bool ab]) ∧ Below w'.heap.size w' w'' from by
    have h1 := tAt_g i.bt 24 s.M tid St w' ((tq_ok _ _ _).below ht hb)
    rw [hav, hab] at h1
    exact h1))
  have CTi := Lib.hid (fun w' => (show Calls Tryz.prog 62 #[.int .i64 (si : Int), .int .i64 (sh : Int)] w' fun e w'' => e = .returned (.int .i64 tid) ∧ w' = w'' from htid ▸ timerOf_any si sh w' (by have := h.g.hk; omega)))
  have PR := Lib.hid (show GoodL s.ls ∧ j < s.qs.length ∧ s.qs.length ≤ 1000000 ∧ sh < c.kn + 1 ∧ (0 < C ∧ C ≤ 3) ∧ si ≤ 4 ∧ (s.qs.getD j q0).ac = true ∧ (s.qs.getD j q0).P.length ≤ 1000 ∧ (s.qs.getD j q0).sh.length = c.kn + 1 ∧ (0 ≤ s.now ∧ s.now ≤ 1000000) from ⟨hg, hj, hn, hsh, hC, hsi, hac, hP, hsl, h.g.nw0⟩)
  have HT := Lib.hid htid
  obtain ⟨q1, q2, q3, q4⟩ := Q.out.s hac
  have x17 : w.cell? ⟨i.x, 17, none⟩ = some (.map (some i.bq)) := co_cell h.g.box rfl
  obtain ⟨n1, hn1⟩ : ∃ n, c.kn + 1 = n := ⟨_, rfl⟩
  have y8 : w.cell? ⟨x.qb, 8, none⟩ = some (.slice (some ⟨x.sb, 0, none⟩) n1 x.sc) := by
    have h1 : w.cell? ⟨x.qb, 8, none⟩ = some (.slice x.sa x.sn x.sc) := co_cell Q.out.b rfl
    rw [q1, q2, hsl, hn1] at h1; exact h1
  have hlt : sh < n1 := by rw [← hn1]; exact hsh
  have S0 := Lib.hid (show Below w.heap.size w w.drew ∧ w.drew.cell? ⟨i.x, 16, none⟩ = some (.pointer (some ⟨i.bt, 0, none⟩)) from ⟨(Below.refl _ _).drew, co_cell h.g.box rfl⟩)
  have MQ := Lib.hid h.g.Q
  obtain ⟨sS, hsS⟩ : ∃ z, seeS c W C si j sh draw s = z := ⟨_, rfl⟩
  obtain ⟨lL, hlL⟩ : ∃ z, seeL c W C si j sh draw s = z := ⟨_, rfl⟩
  rw [hsS] at HSS
  rw [hlL] at HSL
  rw [hsS, hlL, hid]
  clear h hg hj hn hsh hC hsi hac hP hsl hid htid hx hX hav hab hsS hlL hk ht hcT q1 q2 q3 q4
  go_enter Tryz.func42, Tryz.ntmps42
  go_upto_region 2 with (first | (at_lookup; refine wpList_get_mv mapTq rfl (.tmp 17) (.tmp 18) rfl rfl MQ.out id rfl wf (.pointer (some ⟨x.qb, 0, none⟩)) (by rw [FQ.out]; rfl) ?_) | fail)
  go_region_held3 (fun w' => Below w.heap.size w w' ∧ w'.cell? ⟨i.x, 16, none⟩ = some (.pointer (some ⟨i.bt, 0, none⟩)))
    (first | assumption | exact S0.out | exact atG_carry (by assumption) (by assumption))
    (first
      | (go_at_call 62; refine (CTi.out _).mono ?_; rintro e w2 ⟨rfl, rfl⟩)
      | (go_at_call 68; refine (CT.out _ (And.left (by assumption))).mono ?_; rintro e w3 ⟨rfl, hb3⟩))
  rename_i T5
  have B3 := Lib.hid (show Below w.heap.size w w3 from T5.1)
  clear T5 hb3 x17 y8 S0 CT MQ
  have C3 := Lib.hid (C0.out.below B3.out)
  have E3 := Lib.hid ((ExtG.refl w col).below B3.out)
  have hab : ab = true := by
    have := HK.out
    cases ab
    · simp at this
    · rfl
  subst hab
  have hav : ¬ av ≤ s.now := by
    have h := HK.out
    rw [if_neg (by decide)] at h
    intro e
    rw [if_pos e] at h
    simp at h
  have hd : decide (av ≤ s.now) = false := decide_eq_false hav
  have x7 : w3.cell? ⟨i.x, 7, none⟩ = some (.int .i64 c.H) := co_cell C3.out.g.box rfl
  obtain ⟨d, hdd⟩ : ∃ z, s.now - X.sk = z := ⟨_, rfl⟩
  have esub : IntKind.i64.wrap (s.now - X.sk) = d := by have := PR.out.2.2.2.2.2.2.2.2.2; rw [IntKind.wrap_i64]; omega
  have hshl : sh < (s.qs.getD j q0).sh.length := by rw [PR.out.2.2.2.2.2.2.2.2.1]; exact PR.out.2.2.2.1
  obtain ⟨s0, s1, s2, s3, z0⟩ := shard_cells C3.out (sh := sh) PR.out.2.1 PR.out.2.2.2.2.2.2.1 hshl
  rw [HX.out, HXX.out] at s0 s1 s2 s3
  rw [HX.out] at z0
  have hsh3 : w3.heap[x.sb]? = some (.cells (shV (s.qs.getD j q0).sh).toArray 143 (0, 0)) := by rw [← HX.out]; exact ((C3.out.q j PR.out.2.1).s PR.out.2.2.2.2.2.2.1).2.2.1
  have HSH3 := Lib.hid hsh3
  have HSHL := Lib.hid hshl
  have hgx : (s.qs.getD j q0).sh.getD sh sh0 = X := HXX.out
  have HGX := Lib.hid hgx
  have x13 : w3.cell? ⟨i.x, 13, none⟩ = some (.int .i64 s.now) := co_cell C3.out.g.box rfl
  clear hsh3 hshl hgx
  have hc : ¬ (X.he = false ∧ c.H ≤ d) := by
    have h := HK.out
    rw [if_neg (by decide), if_neg hav, hdd] at h
    intro e
    rw [if_pos e] at h
    simp at h
  have FIN := Lib.hid (show ∀ w4, Below w3.heap.size w3 w4 → RetC B0 w col i c W C sS lL (.returned (.slice none 0 0)) w4 from fun w4 hb => by
    rw [HSS.out, HSL.out]
    exact ⟨col, iq, none, 0, rfl, C3.out.below hb, E3.out.below hb, World.ownsRow_nil _ _ _ _, fun g hg => by cases hg⟩)
  clear hbd hav hdd HSH3 HSHL HGX
  cases hhe : X.he with
  | true =>
    rw [hhe] at s3
    clear hhe hc
    go_upto_region 9 with fail
    go_quiet (fail)
    go_wp2_with fail
    go_ret
    exact FIN.out _ (below_drewN w3 _)
  | false =>
    rw [hhe] at s3 hc
    have hge : decide (d ≥ c.H) = false := decide_eq_false (fun e => hc ⟨rfl, e⟩)
    clear hhe hc
    go_upto_region 9 with fail
    go_quiet (fail)
    go_wp2_with fail
    go_ret
    exact FIN.out _ (below_drewN w3 _)
end
end Go.Proofs.YtblipdmagfiigaaGreat
namespace Go.Proofs.YtblipdmagfiigaaGreat
open Go.RowKit
set_option linter.unusedVariables false
set_option maxRecDepth 20000
def seeTo (c : Cfg) (W C si j : Nat) (draw : Int) (l : List Nat) : Nat → Cs → Cs × List LT
  | 0, s => (s, [])
  | k + 1, s => (seeS c W C si j (l.getD k 0) draw (seeTo c W C si j draw l k s).1, (seeTo c W C si j draw l k s).2 ++ seeL c W C si j (l.getD k 0) draw (seeTo c W C si j draw l k s).1)
def wantsOf (q : Qy) : List Nat := wantsL q.N q.its q.P
def slotTo (c : Cfg) (W C : Nat) (draw : Int) (k : Nat) (r : Cs × List LT) : Cs × List LT :=
  if 0 < r.1.ss.L k then
    ((seeTo c W C k (r.1.ss.L k - 1).toNat draw (wantsOf (r.1.qs.getD (r.1.ss.L k - 1).toNat q0)) (wantsOf (r.1.qs.getD (r.1.ss.L k - 1).toNat q0)).length r.1).1,
      r.2 ++ (seeTo c W C k (r.1.ss.L k - 1).toNat draw (wantsOf (r.1.qs.getD (r.1.ss.L k - 1).toNat q0)) (wantsOf (r.1.qs.getD (r.1.ss.L k - 1).toNat q0)).length r.1).2)
  else r
def wakeTo (c : Cfg) (W C : Nat) (draw : Int) (s : Cs) : Nat → Cs × List LT
  | 0 => (s, [])
  | k + 1 => slotTo c W C draw k (wakeTo c W C draw s k)
/-- what a Wake asks of the state -/
structure SeeOk (c : Cfg) (s : Cs) (T : Nat) : Prop where
  g : GoodL s.ls
  n : s.qs.length ≤ 1000000
  nw : 0 ≤ s.now ∧ s.now ≤ 1000000
  q : ∀ j, j < s.qs.length → (s.qs.getD j q0).ac = true → (s.qs.getD j q0).P.length = c.kn + 1 ∧ (s.qs.getD j q0).sh.length = c.kn + 1 ∧ ∀ k, k < c.kn + 1 → (shOf s j k).tu ≤ T ∧ -1000000000 ≤ (shOf s j k).sk ∧ (shOf s j k).sk ≤ 1000000000
  a : ∀ k, k < s.ss.n → 0 < s.ss.L k → ∃ j, j < s.qs.length ∧ s.ss.L k = ((j + 1 : Nat) : Int) ∧ (s.qs.getD j q0).ac = true
theorem SeeOk.put {c : Cfg} {s : Cs} {T T' : Nat} (h : SeeOk c s T) (hT : T ≤ T') {j sh : Nat} (hj : j < s.qs.length) (x : Sh4) (hx : x.tu ≤ T' ∧ -1000000000 ≤ x.sk ∧ x.sk ≤ 1000000000) : SeeOk c (putSh s j sh x) T' := by
  have hl : (putSh s j sh x).qs.length = s.qs.length := List.length_set
  have hg : ∀ k, k ≠ j → (putSh s j sh x).qs.getD k q0 = s.qs.getD k q0 := fun k hk => by
    unfold putSh; dsimp only
    rw [List.getD_eq_getElem?_getD, List.getElem?_set_ne (fun e => hk e.symm), List.getD_eq_getElem?_getD]
  have hgj := putSh_at s j sh x hj
  refine ⟨h.g, by rw [hl]; exact h.n, h.nw, fun k hk hac => ?_, fun k hk h0 => ?_⟩
  · rw [hl] at hk
    by_cases e : k = j
    · subst e
      rw [hgj] at hac ⊢
      obtain ⟨h1, h2, h3⟩ := h.q k hk hac
      refine ⟨h1, by dsimp only; rw [List.length_set]; exact h2, fun m hm => ?_⟩
      unfold shOf
      rw [hgj]
      dsimp only
      by_cases e2 : m = sh
      · subst e2
        rw [List.getD_eq_getElem?_getD, List.getElem?_set_self (by omega)]; exact hx
      · rw [List.getD_eq_getElem?_getD, List.getElem?_set_ne (fun x => e2 x.symm), ← List.getD_eq_getElem?_getD]
        have := h3 m hm
        unfold shOf at this
        exact ⟨by omega, this.2⟩
    · have hs : ∀ m, shOf (putSh s j sh x) k m = shOf s k m := fun m => by unfold shOf; rw [hg k e]
      rw [hg k e] at hac ⊢
      obtain ⟨h1, h2, h3⟩ := h.q k hk hac
      exact ⟨h1, h2, fun m hm => by rw [hs]; have := h3 m hm; exact ⟨by omega, this.2⟩⟩
  · obtain ⟨m, h1, h2, h3⟩ := h.a k hk h0
    refine ⟨m, by rw [hl]; exact h1, h2, ?_⟩
    by_cases e : m = j
    · subst e; rw [hgj]; exact h3
    · rw [hg m e]; exact h3
theorem SeeOk.mono {c : Cfg} {s : Cs} {T T' : Nat} (h : SeeOk c s T) (hT : T ≤ T') : SeeOk c s T' := ⟨h.g, h.n, h.nw, fun j hj hac => ⟨(h.q j hj hac).1, (h.q j hj hac).2.1, fun k hk => by have := (h.q j hj hac).2.2 k hk; exact ⟨by omega, this.2⟩⟩, h.a⟩
theorem SeeOk.timers {c : Cfg} {s : Cs} {T : Nat} (h : SeeOk c s T) (M : List TM) : SeeOk c { s with M := M } T := ⟨h.g, h.n, h.nw, h.q, h.a⟩
theorem seeOk_see {c : Cfg} {W C si j sh T : Nat} {draw : Int} {s : Cs} (h : SeeOk c s T) (hT : 3 ≤ T) (hC : 0 < C ∧ C ≤ 3) (hj : j < s.qs.length) (hac : (s.qs.getD j q0).ac = true) (hsh : sh < c.kn + 1) : SeeOk c (seeS c W C si j sh draw s) (T + 1) := by
  have hb := (h.q j hj hac).2.2 sh hsh
  have hn := h.nw
  unfold seeS
  split
  · exact (h.put (T' := T + 1) (by omega) hj (newSh W C sh s) ⟨by have := firstL24_lt s W C sh hC.1; show firstL24 s W C sh ≤ T + 1; omega, by show -1000000000 ≤ s.now; omega, by show s.now ≤ 1000000000; omega⟩).timers _
  · exact (h.put (T' := T + 1) (by omega) hj (nextSh (shOf s j sh)) ⟨by show (shOf s j sh).tu + 1 ≤ T + 1; omega, hb.2⟩).timers _
  · exact h.put (T' := T + 1) (by omega) hj (hedSh (shOf s j sh)) ⟨by show (shOf s j sh).tu ≤ T + 1; omega, hb.2⟩
  · exact h.mono (by omega)
theorem see_len {c : Cfg} {W C si j sh : Nat} {draw : Int} {s : Cs} : (seeS c W C si j sh draw s).qs.length = s.qs.length := by
  unfold seeS; split
  · exact List.length_set
  · exact List.length_set
  · exact List.length_set
  · rfl
theorem put_eq (s : Cs) (j sh : Nat) (x : Sh4) (hj : j < s.qs.length) (k : Nat) : ((putSh s j sh x).qs.getD k q0).P = (s.qs.getD k q0).P ∧ ((putSh s j sh x).qs.getD k q0).N = (s.qs.getD k q0).N ∧ ((putSh s j sh x).qs.getD k q0).its = (s.qs.getD k q0).its ∧ ((putSh s j sh x).qs.getD k q0).ac = (s.qs.getD k q0).ac ∧ ((putSh s j sh x).qs.getD k q0).t = (s.qs.getD k q0).t ∧ ((putSh s j sh x).qs.getD k q0).K = (s.qs.getD k q0).K ∧ ((putSh s j sh x).qs.getD k q0).dn = (s.qs.getD k q0).dn ∧ ((putSh s j sh x).qs.getD k q0).ca = (s.qs.getD k q0).ca := by
  by_cases e : k = j
  · subst e; rw [putSh_at s k sh x hj]; exact ⟨rfl, rfl, rfl, rfl, rfl, rfl, rfl, rfl⟩
  · have : (putSh s j sh x).qs.getD k q0 = s.qs.getD k q0 := by
      unfold putSh; dsimp only
      rw [List.getD_eq_getElem?_getD, List.getElem?_set_ne (fun x => e x.symm), List.getD_eq_getElem?_getD]
    rw [this]; exact ⟨rfl, rfl, rfl, rfl, rfl, rfl, rfl, rfl⟩
theorem see_eq {c : Cfg} {W C si j sh : Nat} {draw : Int} {s : Cs} (hj : j < s.qs.length) (k : Nat) : ((seeS c W C si j sh draw s).qs.getD k q0).P = (s.qs.getD k q0).P ∧ ((seeS c W C si j sh draw s).qs.getD k q0).N = (s.qs.getD k q0).N ∧ ((seeS c W C si j sh draw s).qs.getD k q0).its = (s.qs.getD k q0).its ∧ ((seeS c W C si j sh draw s).qs.getD k q0).ac = (s.qs.getD k q0).ac ∧ ((seeS c W C si j sh draw s).qs.getD k q0).t = (s.qs.getD k q0).t ∧ ((seeS c W C si j sh draw s).qs.getD k q0).K = (s.qs.getD k q0).K ∧ ((seeS c W C si j sh draw s).qs.getD k q0).dn = (s.qs.getD k q0).dn ∧ ((seeS c W C si j sh draw s).qs.getD k q0).ca = (s.qs.getD k q0).ca := by
  unfold seeS; split
  · exact put_eq s j sh _ hj k
  · exact put_eq s j sh _ hj k
  · exact put_eq s j sh _ hj k
  · exact ⟨rfl, rfl, rfl, rfl, rfl, rfl, rfl, rfl⟩
theorem see_rest {c : Cfg} {W C si j sh : Nat} {draw : Int} {s : Cs} : (seeS c W C si j sh draw s).ss = s.ss ∧ (seeS c W C si j sh draw s).ls = s.ls ∧ (seeS c W C si j sh draw s).now = s.now := by
  unfold seeS; split <;> exact ⟨rfl, rfl, rfl⟩
theorem seeK_lt (c : Cfg) (si j sh : Nat) (s : Cs) : seeK c si j sh s = 0 ∨ seeK c si j sh s = 1 ∨ seeK c si j sh s = 2 ∨ seeK c si j sh s = 3 := by
  unfold seeK; split
  · exact Or.inl rfl
  · split
    · exact Or.inr (Or.inl rfl)
    · split
      · exact Or.inr (Or.inr (Or.inl rfl))
      · exact Or.inr (Or.inr (Or.inr rfl))
theorem wants_lt {q : Qy} {k : Nat} (h : k < (wantsOf q).length) : (wantsOf q).getD k 0 < q.P.length := by
  have hm : (wantsOf q).getD k 0 ∈ wantsOf q := by rw [List.getD_eq_getElem?_getD, List.getElem?_eq_getElem h]; simp
  generalize (wantsOf q).getD k 0 = y at *
  unfold wantsOf wantsL at hm
  split at hm
  · cases hm
  · unfold wantN at hm
    exact List.mem_range.1 (List.mem_filter.1 hm).1
theorem wants_len (q : Qy) : (wantsOf q).length ≤ q.P.length := by
  unfold wantsOf wantsL; split
  · exact Nat.zero_le _
  · unfold wantN
    exact Nat.le_trans (List.length_filter_le _ _) (by rw [List.length_range]; exact Nat.le_refl _)
theorem seeL_len {c : Cfg} {W C si j sh : Nat} {draw : Int} {s : Cs} : (seeL c W C si j sh draw s).length ≤ 1 := by
  have hl : ∀ tu s, (askL c W C si j sh tu s).length ≤ 1 := fun tu s => by unfold askL; split <;> simp
  unfold seeL; split
  · exact hl _ _
  · exact hl _ _
  · exact hl _ _
  · exact Nat.zero_le _
theorem seeTo_ok {c : Cfg} {W C si j T : Nat} {draw : Int} {s : Cs} {l : List Nat} (h : SeeOk c s T) (hT : 3 ≤ T) (hC : 0 < C ∧ C ≤ 3) (hj : j < s.qs.length) (hac : (s.qs.getD j q0).ac = true) (hl : ∀ m, m < l.length → l.getD m 0 < c.kn + 1) :
    ∀ m, m ≤ l.length → SeeOk c (seeTo c W C si j draw l m s).1 (T + m) ∧ (seeTo c W C si j draw l m s).1.ss = s.ss ∧ (seeTo c W C si j draw l m s).1.qs.length = s.qs.length ∧ (∀ k, ((seeTo c W C si j draw l m s).1.qs.getD k q0).ac = (s.qs.getD k q0).ac) ∧ (seeTo c W C si j draw l m s).2.length ≤ m
  | 0, _ => ⟨h, rfl, rfl, fun _ => rfl, Nat.le_refl _⟩
  | m + 1, hm => by
    obtain ⟨h1, h2, h3, h4, h5⟩ := seeTo_ok h hT hC hj hac hl m (by omega)
    have hj' : j < (seeTo c W C si j draw l m s).1.qs.length := by rw [h3]; exact hj
    have hso := seeOk_see (W := W) (si := si) (draw := draw) h1 (by omega) hC hj' (by rw [h4]; exact hac) (hl m (by omega))
    refine ⟨hso, see_rest.1.trans h2, see_len.trans h3, fun k => ((see_eq hj' k).2.2.2.1).trans (h4 k), ?_⟩
    have := seeL_len (c := c) (W := W) (C := C) (si := si) (j := j) (sh := l.getD m 0) (draw := draw) (s := (seeTo c W C si j draw l m s).1)
    unfold seeTo
    dsimp only
    rw [List.length_append]; omega
theorem slot_eq {c : Cfg} {W C k j : Nat} {draw : Int} {r : Cs × List LT} (hL : r.1.ss.L k = ((j + 1 : Nat) : Int)) : slotTo c W C draw k r = ((seeTo c W C k j draw (wantsOf (r.1.qs.getD j q0)) (wantsOf (r.1.qs.getD j q0)).length r.1).1, r.2 ++ (seeTo c W C k j draw (wantsOf (r.1.qs.getD j q0)) (wantsOf (r.1.qs.getD j q0)).length r.1).2) := by
  unfold slotTo
  rw [hL, if_pos (by omega), show (((j + 1 : Nat) : Int) - 1).toNat = j by omega]
theorem wake_ok {c : Cfg} {W C T : Nat} {draw : Int} {s : Cs} (h : SeeOk c s T) (hT : 3 ≤ T) (hC : 0 < C ∧ C ≤ 3) (hk5 : c.kn ≤ 5) :
    ∀ k, k ≤ s.ss.n → SeeOk c (wakeTo c W C draw s k).1 (T + 6 * k) ∧ (wakeTo c W C draw s k).1.ss = s.ss ∧ (wakeTo c W C draw s k).1.qs.length = s.qs.length ∧ (wakeTo c W C draw s k).2.length ≤ 6 * k
  | 0, _ => ⟨h, rfl, rfl, Nat.le_refl _⟩
  | k + 1, hk => by
    obtain ⟨h1, h2, h3, h4⟩ := wake_ok h hT hC hk5 k (by omega)
    by_cases h0 : 0 < (wakeTo c W C draw s k).1.ss.L k
    · obtain ⟨j, hj, hL, hac⟩ := h1.a k (by rw [h2]; omega) h0
      have hq := h1.q j hj hac
      have hwl := wants_len ((wakeTo c W C draw s k).1.qs.getD j q0)
      obtain ⟨g1, g2, g3, g4, g5⟩ := seeTo_ok (W := W) (si := k) (draw := draw) (l := wantsOf ((wakeTo c W C draw s k).1.qs.getD j q0)) h1 (by omega) hC hj hac (fun m hm => by rw [← hq.1]; exact wants_lt hm) _ (Nat.le_refl _)
      have e : wakeTo c W C draw s (k + 1) = slotTo c W C draw k (wakeTo c W C draw s k) := rfl
      rw [e, slot_eq hL]
      refine ⟨g1.mono (by rw [hq.1] at hwl; omega), g2.trans h2, g3.trans h3, ?_⟩
      dsimp only
      rw [List.length_append]; rw [hq.1] at hwl; omega
    · have e : wakeTo c W C draw s (k + 1) = wakeTo c W C draw s k := by
        show slotTo c W C draw k (wakeTo c W C draw s k) = _
        unfold slotTo; rw [if_neg h0]
      rw [e]
      exact ⟨h1.mono (by omega), h2, h3, by omega⟩
section
variable {B0 : Nat} {w w' : World} {col col' : Nat → Nat} {i : CoI} {c : Cfg} {W C : Nat} {s : Cs} {iq : Nat → QI} {F : Nat → Prop}
theorem gSee_any (si j sh T : Nat) (draw : Int) (w : World) (h : CoX B0 w col i c W C s iq) (ho : SeeOk c s T) (hT : T ≤ 100000000) (hj : j < s.qs.length) (hac : (s.qs.getD j q0).ac = true) (hsh : sh < c.kn + 1) (hC : 0 < C ∧ C ≤ 3) (hsi : si ≤ 4) :
    Calls Tryz.prog 42 #[.pointer (some ⟨i.x, 0, none⟩), .int .i64 (si : Int), .int .i64 ((j + 1 : Nat) : Int), .int .i64 (sh : Int), .int .i64 draw] w (RetC B0 w col i c W C (seeS c W C si j sh draw s) (seeL c W C si j sh draw s)) := by
  obtain ⟨q1, q2, q3⟩ := ho.q j hj hac
  have hb := q3 sh hsh
  have hP : (s.qs.getD j q0).P.length ≤ 1000 := by rw [q1]; have := h.g.hk; omega
  rcases seeK_lt c si j sh s with hk | hk | hk | hk
  · exact gSee_0 si j sh draw w h ho.g hj ho.n hsh hC hsi hac hP q2 ⟨by omega, hb.2⟩ hk
  · exact gSee_1 si j sh draw w h ho.g hj ho.n hsh hC hsi hac hP q2 ⟨by omega, hb.2⟩ hk
  · exact gSee_2 si j sh draw w h ho.g hj ho.n hsh hC hsi hac hP q2 ⟨by omega, hb.2⟩ hk
  · exact gSee_3 si j sh draw w h ho.g hj ho.n hsh hC hsi hac hP q2 ⟨by omega, hb.2⟩ hk
end
end Go.Proofs.YtblipdmagfiigaaGreat
namespace Go.Proofs.YtblipdmagfiigaaGreat
open Go.RowKit
set_option linter.unusedVariables false
set_option maxRecDepth 20000
theorem atM_cons (y : TM) (l : List TM) (id : Int) : atM (y :: l) id = if y.id = id then some y.at_ else atM l id := by
  unfold atM
  by_cases e : y.id = id
  · rw [List.find?_cons_of_pos (by simp [e]), if_pos e]; rfl
  · rw [List.find?_cons_of_neg (by simp [e]), if_neg e]
theorem atM_upd_ne {id a id' : Int} (h : id' ≠ id) : ∀ M : List TM, atM (updT M id a) id' = atM M id'
  | [] => rfl
  | y :: l => by
    have ih := atM_upd_ne (a := a) h l
    unfold updT at ih ⊢
    rw [List.map_cons, atM_cons, atM_cons, ih]
    by_cases e : y.id = id
    · rw [if_pos e, if_neg (fun x => h x.symm), if_neg (fun x => h (by rw [← x, e]))]
    · rw [if_neg e]
theorem atM_upd_eq {id a : Int} : ∀ {M : List TM}, id ∈ M.map TM.id → atM (updT M id a) id = some a
  | [], h => by cases h
  | y :: l, h => by
    by_cases e : y.id = id
    · unfold updT
      rw [List.map_cons, atM_cons, if_pos e, if_pos rfl]
    · have ih := atM_upd_eq (a := a) (M := l) (by
        rw [List.map_cons, List.mem_cons] at h
        rcases h with h | h
        · exact absurd h.symm e
        · exact h)
      unfold updT at ih ⊢
      rw [List.map_cons, atM_cons, if_neg e, if_neg e, ih]
theorem atM_app {id a id' : Int} : ∀ {M : List TM}, id ∉ M.map TM.id → atM (M ++ [⟨id, a⟩]) id' = if id' = id then some a else atM M id'
  | [], h => by
    rw [List.nil_append, atM_cons]
    by_cases e : id' = id
    · rw [if_pos e.symm, if_pos e]
    · rw [if_neg (fun x => e x.symm), if_neg e]
  | y :: l, h => by
    rw [List.map_cons, List.mem_cons, not_or] at h
    rw [List.cons_append, atM_cons, atM_cons, atM_app h.2]
    by_cases e : y.id = id'
    · rw [if_pos e, if_pos e, if_neg (fun x => h.1 (by rw [← x, e]))]
    · rw [if_neg e, if_neg e]
theorem atM_set {M : List TM} {id a : Int} (hg : goodT id a) (hr : id ∈ M.map TM.id ∨ M.length < 24) (id' : Int) : atM (setM 24 M id a) id' = if id' = id then some a else atM M id' := by
  unfold setM
  rw [if_neg (fun x => x hg)]
  by_cases hm : id ∈ M.map TM.id
  · rw [if_pos hm]
    by_cases e : id' = id
    · rw [if_pos e, e]; exact atM_upd_eq hm
    · rw [if_neg e]; exact atM_upd_ne e M
  · rw [if_neg hm, if_neg (by rcases hr with h | h; exact absurd h hm; omega)]
    exact atM_app hm
theorem setM_len (M : List TM) (id a : Int) : (setM 24 M id a).length ≤ M.length + 1 := by
  unfold setM
  split
  · omega
  · split
    · unfold updT; rw [List.length_map]; omega
    · split
      · omega
      · simp
theorem idT_inj {si a b : Nat} (h : idT si a = idT si b) : a = b := by unfold idT at h; omega
theorem getD_inj {l : List Nat} (h : l.Nodup) {a b : Nat} (ha : a < l.length) (hb : b < l.length) (e : l.getD a 0 = l.getD b 0) : a = b := by
  rw [List.getD_eq_getElem?_getD, List.getD_eq_getElem?_getD, List.getElem?_eq_getElem ha, List.getElem?_eq_getElem hb] at e
  exact (List.getElem_inj h).1 (by simpa using e)
end Go.Proofs.YtblipdmagfiigaaGreat
namespace Go.Proofs.YtblipdmagfiigaaGreat
open Go.RowKit
set_option linter.unusedVariables false
set_option maxRecDepth 20000
structure AskP where
  slot : Int
  query : Int
  shard : Int
  seq : Int
  epoch : Int
  text : ByteArray
  k : Int
  batch : Int
  first : Bool
  ad : Int
  aw : ByteArray
end Go.Proofs.YtblipdmagfiigaaGreat
namespace Go.Proofs.YtblipdmagfiigaaGreat
open Go.RowKit
set_option linter.unusedVariables false
set_option maxRecDepth 20000
theorem taHelloHello (a b : Int) (w : World) : (Instr.typeAssert (.iface 62 (.agg #[.int .i64 a, .int .i64 b])) 20 62 true).run Tryz.prog w = .ok (.tuple #[.agg #[.int .i64 a, .int .i64 b], .bool true]) w := by kernel_rfl
theorem taGrantHello (a b c : Int) (w : World) : (Instr.typeAssert (.iface 79 (.agg #[.int .i64 a, .int .i64 b, .int .i64 c])) 20 62 true).run Tryz.prog w = .ok (.tuple #[.agg #[.int .i64 0, .int .i64 0], .bool false]) w := by kernel_rfl
theorem taGrantGrant (a b c : Int) (w : World) : (Instr.typeAssert (.iface 79 (.agg #[.int .i64 a, .int .i64 b, .int .i64 c])) 20 79 true).run Tryz.prog w = .ok (.tuple #[.agg #[.int .i64 a, .int .i64 b, .int .i64 c], .bool true]) w := by kernel_rfl
theorem taAskHello (x : AskP) (w : World) : (Instr.typeAssert (.iface 73 (.agg #[.int .i64 x.slot, .int .i64 x.query, .int .i64 x.shard, .int .i64 x.seq, .int .i64 x.epoch, .string x.text, .int .i64 x.k, .int .i64 x.batch, .bool x.first, .int .i64 x.ad, .string x.aw])) 20 62 true).run Tryz.prog w = .ok (.tuple #[.agg #[.int .i64 0, .int .i64 0], .bool false]) w := by kernel_rfl
theorem taAskGrant (x : AskP) (w : World) : (Instr.typeAssert (.iface 73 (.agg #[.int .i64 x.slot, .int .i64 x.query, .int .i64 x.shard, .int .i64 x.seq, .int .i64 x.epoch, .string x.text, .int .i64 x.k, .int .i64 x.batch, .bool x.first, .int .i64 x.ad, .string x.aw])) 20 79 true).run Tryz.prog w = .ok (.tuple #[.agg #[.int .i64 0, .int .i64 0, .int .i64 0], .bool false]) w := by kernel_rfl
theorem taAskAsk (x : AskP) (w : World) : (Instr.typeAssert (.iface 73 (.agg #[.int .i64 x.slot, .int .i64 x.query, .int .i64 x.shard, .int .i64 x.seq, .int .i64 x.epoch, .string x.text, .int .i64 x.k, .int .i64 x.batch, .bool x.first, .int .i64 x.ad, .string x.aw])) 20 73 true).run Tryz.prog w = .ok (.tuple #[.agg #[.int .i64 x.slot, .int .i64 x.query, .int .i64 x.shard, .int .i64 x.seq, .int .i64 x.epoch, .string x.text, .int .i64 x.k, .int .i64 x.batch, .bool x.first, .int .i64 x.ad, .string x.aw], .bool true]) w := by kernel_rfl
end Go.Proofs.YtblipdmagfiigaaGreat
namespace Go.Proofs.YtblipdmagfiigaaGreat
open Go.RowKit
set_option linter.unusedVariables false
set_option maxRecDepth 20000
def ls0 : Lt := newS 1 5
def ls1 : Lt := helloS ls0 1 1 0
theorem ls0_good : GoodL ls0 := new_is_good (by decide)
theorem ls1_e : helloE ls0 1 1 0 = 1 := by decide +kernel
theorem ls1_n : helloN ls0 1 1 0 = 0 := by decide +kernel
/-- letters: one -/
def One24 (w : World) (tw : Int) (t : TypeId) (v : Value) (p : Nat) : Prop := w.cell? ⟨p, 0, none⟩ = some (.int .i64 tw) ∧ w.cell? ⟨p, 1, none⟩ = some (.iface t v)
theorem One24.below {w w' : World} {tw : Int} {t : TypeId} {v : Value} {p : Nat} (h : One24 w tw t v p) (hb : Below w.heap.size w w') : One24 w' tw t v p :=
  ⟨(hb.cell (p := ⟨p, 0, none⟩) (lt_of_cell h.1)).trans h.1, (hb.cell (p := ⟨p, 1, none⟩) (lt_of_cell h.1)).trans h.2⟩
theorem One24.turn {w w' : World} {tw : Int} {t : TypeId} {v : Value} {p : Nat} {F : Nat → Prop} (h : One24 w tw t v p) (k : Turn F w w') (hF : ¬ F p) : One24 w' tw t v p :=
  ⟨(k.cell (lt_of_cell h.1) hF).trans h.1, (k.cell (lt_of_cell h.1) hF).trans h.2⟩
variable {B0 : Nat} {col : Nat → Nat} {x ca cc cw c2 bl bs bo ba bt bq n : Nat} {ss : Sl} {M : List TM} {f : Int → Option Value}
def Greet24 (B0 : Nat) (col : Nat → Nat) (x ca cc cw c2 bl bs bo ba bt bq n : Nat) (ss : Sl) (M : List TM) (f : Int → Option Value) (w : World) (e : Ending) (w' : World) : Prop :=
  ∃ p, e = .returned (.slice (some ⟨p, 0, none⟩) 1 1) ∧ One24 w' 1 79 (.agg #[.int .i64 1, .int .i64 1, .int .i64 1]) p ∧ col p = 9 ∧ CoS B0 w' col x ca cc cw c2 bl bs bo ba bt bq n ls1 ss M f ∧ Below B0 w w'
set_option maxRecDepth 100000 in
set_option maxHeartbeats 1600000 in
theorem greeted24 (w : World) (h : CoS B0 w col x ca cc cw c2 bl bs bo ba bt bq n ls0 ss M f) : Calls Tryz.prog 64 #[.pointer (some ⟨x, 0, none⟩), .agg #[.int .i64 1, .int .i64 1]] w (Greet24 B0 col x ca cc cw c2 bl bs bo ba bt bq n ss M f w) := by
  have hb1 := below_one w (.cells #[.int .i64 1, .int .i64 1] 62)
  obtain ⟨q, hq⟩ : ∃ q, w.heap.size = q := ⟨_, rfl⟩
  have KQ := Lib.hid (show (w.alloc (.cells #[.int .i64 1, .int .i64 1] 62)).heap[q]? = some (.cells #[.int .i64 1, .int .i64 1] 62 (0, 0)) from by rw [← hq]; exact heap_alloc_new w _)
  have C1 := Lib.hid (h.below hb1)
  have B1 := Lib.hid (hb1.mono h.hB)
  have CQ := Lib.hid (show col q = 9 from h.nw q (by omega))
  have e1 := ls1_e
  have e2 := ls1_n
  clear h hb1
  go_enter Tryz.func64, Tryz.ntmps64
  go_upto_region 1 with fail
  generalize w.alloc (.cells #[.int .i64 1, .int .i64 1] 62) = w1 at *
  have q0 : w1.cell? ⟨q, 0, none⟩ = some (.int .i64 1) := co_cell KQ.out rfl
  have q1 : w1.cell? ⟨q, 1, none⟩ = some (.int .i64 1) := co_cell KQ.out rfl
  have x13 : w1.cell? ⟨x, 13, none⟩ = some (.int .i64 0) := co_cell C1.out.box rfl
  have x14 : w1.cell? ⟨x, 14, none⟩ = some (.pointer (some ⟨bl, 0, none⟩)) := co_cell C1.out.box rfl
  have CD := Lib.hid (C1.out.below ((Below.refl _ _).drew))
  have CH := Lib.hid (hello_any bl 1 1 0 w1.drew CD.out.L ls0_good)
  rw [e1, e2] at CH
  go_region_law
    (first
      | (go_simp; go_at_call 88; (with_reducible refine CH.out.mono ?_); rintro e w2 ⟨rfl, hT⟩))
  all_goals
    have C2 := Lib.hid (show CoS B0 w2 col x ca cc cw c2 bl bs bo ba bt bq n ls1 ss M f from CD.out.lease hT)
    have K2 := Lib.hid ((hT.2.block q (by have := (Array.getElem?_eq_some_iff.1 KQ.out).1; exact this) (by intro e; have := C1.out.cl; have := CQ.out; rw [e] at this; omega)).trans (show w1.drew.heap[q]? = some (.cells #[.int .i64 1, .int .i64 1] 62 (0, 0)) from KQ.out))
    have B2 := Lib.hid (show Below B0 w w2 from B1.out.trans (((Below.refl B0 w1).drew).trans (hT.2.below (C1.out.lo bl (by rw [C1.out.cl]; decide)) CD.out.hB)))
    clear hT q0 q1 x13 x14
    have q0 : w2.cell? ⟨q, 0, none⟩ = some (.int .i64 1) := co_cell K2.out rfl
    have q1 : w2.cell? ⟨q, 1, none⟩ = some (.int .i64 1) := co_cell K2.out rfl
    have hb3 := below_one w2 (.cells #[.int .i64 1, .iface 79 (.agg #[.int .i64 1, .int .i64 1, .int .i64 1])] 68)
    have FIN := Lib.hid (show Greet24 B0 col x ca cc cw c2 bl bs bo ba bt bq n ss M f w (.returned (.slice (some ⟨w2.heap.size, 0, none⟩) 1 1)) (w2.alloc (.cells #[.int .i64 1, .iface 79 (.agg #[.int .i64 1, .int .i64 1, .int .i64 1])] 68)) from
      ⟨w2.heap.size, rfl, ⟨by rw [cell_alloc rfl]; rfl, by rw [cell_alloc rfl]; rfl⟩, C2.out.nw _ (Nat.le_refl _), C2.out.below hb3, B2.out.trans (hb3.mono C2.out.hB)⟩)
    clear hb3
    go_wp2_with fail
    go_ret
    exact FIN.out
end Go.Proofs.YtblipdmagfiigaaGreat
namespace Go.Proofs.YtblipdmagfiigaaGreat
open Go.RowKit
set_option linter.unusedVariables false
set_option maxRecDepth 20000
variable {B0 : Nat} {col : Nat → Nat} {x ca cc cw c2 bl bs bo ba bt bq n : Nat} {ss : Sl} {M : List TM} {f : Int → Option Value}
set_option maxRecDepth 100000 in
set_option maxHeartbeats 1600000 in
theorem process24 (w : World) (h : CoS B0 w col x ca cc cw c2 bl bs bo ba bt bq n ls0 ss M f) : Calls Tryz.prog 39 #[.pointer (some ⟨x, 0, none⟩), .iface 62 (.agg #[.int .i64 1, .int .i64 1])] w (Greet24 B0 col x ca cc cw c2 bl bs bo ba bt bq n ss M f w) := by
  have tHello := taHelloHello 1 1
  have hb1 := below_one w (.cells #[.int .i64 1, .int .i64 1] 62)
  have CG := Lib.hid (greeted24 _ (h.below hb1))
  have B1 := Lib.hid (hb1.mono h.hB)
  clear h hb1
  go_enter Tryz.func39, Tryz.ntmps39
  go_wp2_with fail
  refine CG.out.mono ?_
  rintro e w2 ⟨p, rfl, h1, h2, h3, h4⟩
  have FIN := Lib.hid (show Greet24 B0 col x ca cc cw c2 bl bs bo ba bt bq n ss M f w (.returned (.slice (some ⟨p, 0, none⟩) 1 1)) w2 from ⟨p, rfl, h1, h2, h3, B1.out.trans h4⟩)
  clear h1 h2 h3 h4
  go_wp2_with fail
  go_ret
  exact FIN.out
theorem take24 (w : World) (h : CoS B0 w col x ca cc cw c2 bl bs bo ba bt bq n ls0 ss M f) : Calls Tryz.prog 14 #[.pointer (some ⟨x, 0, none⟩), .iface 62 (.agg #[.int .i64 1, .int .i64 1])] w (Greet24 B0 col x ca cc cw c2 bl bs bo ba bt bq n ss M f w) := by
  have CG := Lib.hid (process24 _ h)
  clear h
  go_enter Tryz.func14, Tryz.ntmps14
  go_wp2_with fail
  refine CG.out.mono ?_
  rintro e w2 ⟨p, rfl, h1, h2, h3, h4⟩
  have FIN := Lib.hid (show Greet24 B0 col x ca cc cw c2 bl bs bo ba bt bq n ss M f w (.returned (.slice (some ⟨p, 0, none⟩) 1 1)) w2 from ⟨p, rfl, h1, h2, h3, h4⟩)
  clear h1 h2 h3 h4
  go_wp2_with fail
  go_ret
  exact FIN.out
end Go.Proofs.YtblipdmagfiigaaGreat
namespace Go.Proofs.YtblipdmagfiigaaGreat
open Go.RowKit
set_option linter.unusedVariables false
set_option maxRecDepth 20000
def helS (s : Cs) (k l : Int) : Cs := { s with ls := helloS s.ls k l s.now }
def helL (s : Cs) (k l : Int) : List LT := if helloN s.ls k l s.now = 0 then [(k, 79, .agg #[.int .i64 k, .int .i64 l, .int .i64 (helloE s.ls k l s.now)])] else []
section
variable {B0 : Nat} {w w' : World} {col col' : Nat → Nat} {i : CoI} {c : Cfg} {W C : Nat} {s : Cs} {iq : Nat → QI} {F : Nat → Prop}
set_option maxRecDepth 100000 in
set_option maxHeartbeats 1600000 in
theorem hGreeted_any (k l : Int) (w : World) (h : CoX B0 w col i c W C s iq) (hg : GoodL s.ls) : Calls Tryz.prog 64 #[.pointer (some ⟨i.x, 0, none⟩), .agg #[.int .i64 k, .int .i64 l]] w (RetC B0 w col i c W C (helS s k l) (helL s k l)) := by
  have hb1 := below_one w (.cells #[.int .i64 k, .int .i64 l] 62)
  obtain ⟨q, hq⟩ : ∃ q, w.heap.size = q := ⟨_, rfl⟩
  have KQ := Lib.hid (show (w.alloc (.cells #[.int .i64 k, .int .i64 l] 62)).heap[q]? = some (.cells #[.int .i64 k, .int .i64 l] 62 (0, 0)) from by rw [← hq]; exact heap_alloc_new w _)
  have C1 := Lib.hid (h.below hb1)
  have E1 := Lib.hid ((ExtG.refl w col).below hb1)
  have CQ := Lib.hid (show col q = 9 from h.g.nw q (by omega))
  have HG := Lib.hid hg
  obtain ⟨E, hE⟩ : ∃ E, helloE s.ls k l s.now = E := ⟨_, rfl⟩
  obtain ⟨N, hN⟩ : ∃ N, helloN s.ls k l s.now = N := ⟨_, rfl⟩
  have HL := Lib.hid (show helL s k l = if N = 0 then [(k, 79, .agg #[.int .i64 k, .int .i64 l, .int .i64 E])] else [] from by unfold helL; rw [hE, hN])
  obtain ⟨lts, hlts⟩ : ∃ z, helL s k l = z := ⟨_, rfl⟩
  rw [hlts] at HL ⊢
  clear h hb1 hg hlts
  go_enter Tryz.func64, Tryz.ntmps64
  go_upto_region 1 with fail
  generalize w.alloc (.cells #[.int .i64 k, .int .i64 l] 62) = w1 at *
  have CD := Lib.hid (C1.out.below ((Below.refl _ _).drew))
  have CH := Lib.hid (hello_any i.bl k l s.now w1.drew CD.out.g.L HG.out)
  rw [hE, hN] at CH
  have HS := Lib.hid (show ∀ (w' : World), w'.heap[q]? = some (.cells #[.int .i64 k, .int .i64 l] 62 (0, 0)) → w'.heap[i.x]? = w1.heap[i.x]? → w'.cell? ⟨q, 0, none⟩ = some (.int .i64 k) ∧ w'.cell? ⟨q, 1, none⟩ = some (.int .i64 l) ∧ w'.cell? ⟨i.x, 13, none⟩ = some (.int .i64 s.now) ∧ w'.cell? ⟨i.x, 14, none⟩ = some (.pointer (some ⟨i.bl, 0, none⟩)) from fun w' h1 h2 => by
    have h3 := h2.trans C1.out.g.box
    exact ⟨co_cell h1 rfl, co_cell h1 rfl, co_cell h3 rfl, co_cell h3 rfl⟩)
  have S0 := Lib.hid (HS.out w1.drew KQ.out rfl)
  have HK := Lib.hid (show ∀ w2, ButL i.bl w1.drew w2 → w2.heap[q]? = some (.cells #[.int .i64 k, .int .i64 l] 62 (0, 0)) ∧ w2.heap[i.x]? = w1.heap[i.x]? from fun w2 hT => ⟨(hT.block q (by have := (Array.getElem?_eq_some_iff.1 KQ.out).1; exact this) (by intro e; have := C1.out.g.cl; have := CQ.out; rw [e] at this; omega)).trans (show w1.drew.heap[q]? = _ from KQ.out), (hT.block i.x (by have := (Array.getElem?_eq_some_iff.1 C1.out.g.box).1; exact this) (by intro e; have h1 := C1.out.g.cl; have h2 := C1.out.g.cx.1; rw [e] at h2; omega)).trans rfl⟩)
  clear hE hN HG hq
  go_region_held3 (fun w' => w'.cell? ⟨q, 0, none⟩ = some (.int .i64 k) ∧ w'.cell? ⟨q, 1, none⟩ = some (.int .i64 l) ∧ w'.cell? ⟨i.x, 13, none⟩ = some (.int .i64 s.now) ∧ w'.cell? ⟨i.x, 14, none⟩ = some (.pointer (some ⟨i.bl, 0, none⟩)))
    (first | assumption | exact S0.out)
    (first
      | (go_at_call 88; refine CH.out.mono ?_; rintro e w2 ⟨rfl, hT⟩; have S2 := HS.out w2 (HK.out w2 hT.2).1 (HK.out w2 hT.2).2))
  have C2 := Lib.hid (show CoX B0 w2 col i c W C (helS s k l) iq from CD.out.lease hT)
  have K2 := Lib.hid (HK.out w2 hT.2).1
  have E2 := Lib.hid ((E1.out.below ((Below.refl _ _).drew)).turn hT.2.turn (fun b e => by rw [e, C1.out.g.cl]; decide))
  clear hT S2 S0 HS HK CH
  have q0 : w2.cell? ⟨q, 0, none⟩ = some (.int .i64 k) := co_cell K2.out rfl
  have q1 : w2.cell? ⟨q, 1, none⟩ = some (.int .i64 l) := co_cell K2.out rfl
  by_cases hN : N = 0
  · have hb3 := below_one w2 (.cells #[.int .i64 k, .iface 79 (.agg #[.int .i64 k, .int .i64 l, .int .i64 E])] 68)
    have FIN := Lib.hid (show RetC B0 w col i c W C (helS s k l) lts (.returned (.slice (some ⟨w2.heap.size, 0, none⟩) 1 1)) (w2.alloc (.cells #[.int .i64 k, .iface 79 (.agg #[.int .i64 k, .int .i64 l, .int .i64 E])] 68)) from by
      rw [HL.out, if_pos hN]
      exact ⟨col, iq, _, _, rfl, C2.out.below hb3, E2.out.below hb3, base_less24 (World.ownsRow_lit w2 _ 1 (Nat.le_refl _) (by unfold maxLen; omega) rfl) E2.out.1.size, fun g hg => by injection hg with hg; injection hg with hg; exact C2.out.g.nw g (by omega)⟩)
    clear hb3
    subst hN
    go_wp2_with fail
    go_ret
    exact FIN.out
  · have FIN := Lib.hid (show RetC B0 w col i c W C (helS s k l) lts (.returned (.slice none 0 0)) w2 from by
      rw [HL.out, if_neg hN]
      exact ⟨col, iq, none, 0, rfl, C2.out, E2.out, World.ownsRow_nil _ _ _ _, fun g hg => by cases hg⟩)
    go_wp2_with fail
    go_ret
    exact FIN.out
theorem hTake_any (k l : Int) (w : World) (h : CoX B0 w col i c W C s iq) (hg : GoodL s.ls) : Calls Tryz.prog 14 #[.pointer (some ⟨i.x, 0, none⟩), .iface 62 (.agg #[.int .i64 k, .int .i64 l])] w (RetC B0 w col i c W C (helS s k l) (helL s k l)) := by
  have tHello := taHelloHello k l
  have hb1 := below_one w (.cells #[.int .i64 k, .int .i64 l] 62)
  have CG := Lib.hid (hGreeted_any k l _ (h.below hb1) hg)
  have E1 := Lib.hid ((ExtG.refl w col).below hb1)
  obtain ⟨lts, hlts⟩ : ∃ z, helL s k l = z := ⟨_, rfl⟩
  rw [hlts] at CG ⊢
  have PR : Calls Tryz.prog 39 #[.pointer (some ⟨i.x, 0, none⟩), .iface 62 (.agg #[.int .i64 k, .int .i64 l])] w (RetC B0 w col i c W C (helS s k l) lts) := by
    clear h hg hb1 hlts
    go_enter Tryz.func39, Tryz.ntmps39
    go_wp2_with fail
    refine CG.out.mono ?_
    rintro e w2 ⟨col', iq', a, cc, rfl, h1, h2, h3, h4⟩
    have FIN := Lib.hid (show RetC B0 w col i c W C (helS s k l) lts (.returned (.slice a lts.length cc)) w2 from ⟨col', iq', a, cc, rfl, h1, E1.out.trans h2, base_less24 h3 E1.out.1.size, h4⟩)
    clear h1 h2 h3 h4
    go_wp2_with fail
    go_ret
    exact FIN.out
  have PRH := Lib.hid PR
  clear PR h hg hb1 CG E1 tHello hlts
  go_enter Tryz.func14, Tryz.ntmps14
  go_wp2_with fail
  refine PRH.out.mono ?_
  rintro e w2 ⟨col', iq', a, cc, rfl, h1, h2, h3, h4⟩
  have FIN := Lib.hid (show RetC B0 w col i c W C (helS s k l) lts (.returned (.slice a lts.length cc)) w2 from ⟨col', iq', a, cc, rfl, h1, h2, h3, h4⟩)
  clear h1 h2 h3 h4
  go_wp2_with fail
  go_ret
  exact FIN.out
theorem hTick_any (w : World) (h : CoX B0 w col i c W C s iq) (hn : s.now < 1000000) : Calls Tryz.prog 11 #[.pointer (some ⟨i.x, 0, none⟩)] w fun e w' => e = .returned (.tuple #[]) ∧ CoX B0 w' col i c W C { s with now := s.now + 1 } iq ∧ ExtG w col w' col := by
  have x13 : w.cell? ⟨i.x, 13, none⟩ = some (.int .i64 s.now) := co_cell h.g.box rfl
  have z13 := co_fz h.g.box 13
  have h0 := h.g.nw0
  have FIN := Lib.hid (show CoX B0 (w.setCell ⟨i.x, 13, none⟩ (.int .i64 (s.now + 1))) col i c W C { s with now := s.now + 1 } iq ∧ ExtG w col (w.setCell ⟨i.x, 13, none⟩ (.int .i64 (s.now + 1))) col from ⟨h.tick (s.now + 1) (by omega), (ExtG.refl _ _).turn (F := fun k => k = i.x) (Turn.setCell rfl) (fun k e => by rw [e, h.g.cx.1]; decide)⟩)
  have hm : min (s.now + 1) 1099511627776 = s.now + 1 := by omega
  clear h
  go_enter Tryz.func11, Tryz.ntmps11
  go_wp2_with fail
  refine ⟨rfl, _, results_none rfl _ _ _, rfl, ?_⟩
  exact FIN.out
theorem hNow_any (w : World) (h : CoX B0 w col i c W C s iq) : Calls Tryz.prog 13 #[.pointer (some ⟨i.x, 0, none⟩)] w fun e w' => e = .returned (.int .i64 s.now) ∧ w = w' := by
  have x13 : w.cell? ⟨i.x, 13, none⟩ = some (.int .i64 s.now) := co_cell h.g.box rfl
  clear h
  go_enter Tryz.func13, Tryz.ntmps13
  go_wp2_with fail
  go_ret
  exact ⟨rfl, rfl⟩
/-- a coordinator that was just made -/
theorem CoX.fresh {now : Int} {ls : Lt} {ss : Sl} {M : List TM} (h : CoG B0 w col i c W C now 0 ls ss M (fun _ => none)) (iq : Nat → QI) : CoX B0 w col i c W C ⟨now, ls, ss, M, []⟩ iq := by
  have e : qmG iq 0 = fun _ => none := by funext k; unfold qmG; rw [if_neg (by omega)]
  exact ⟨by dsimp only [List.length_nil]; rw [e]; exact h, fun j hj => absurd hj (by simp)⟩
end
end Go.Proofs.YtblipdmagfiigaaGreat
namespace Go.Proofs.YtblipdmagfiigaaGreat
open Go.RowKit
set_option linter.unusedVariables false
set_option maxRecDepth 20000
theorem wpList_append_at {P : Program} {w : World} {ops : Array Oper} {rest : List Oper} {o : Oper} {a : Act} {Q : Exit → Act → World → Prop} (hgd : o.guard = none) (s x : Operand) (t : TypeId)
    (ho : o.op = .call { callee := .builtin .append, args := #[s, x], argTypes := #[t, t] })
    (base : Nat) (e : TypeId) (i : TypeInfo) (z : Value) (size bytes : Nat) (ht : P.underlying t = some (.slice e)) (hi : P.info? e = some i) (hz : i.zero = some z)
    (hsize : i.size = size) (hby : i.bytes = bytes) (hzs : z.cells.size = size) (hsz : 0 < size)
    (a0 : Option Addr) (n c0 : Nat) (xs : List Value) (hs : a.eval s = .slice a0 n c0) (hown : w.ownsRow base e size (.slice a0 n c0) n xs)
    (ao : Option Addr) (m c : Nat) (news : List Value) (hx : a.eval x = .slice ao m c) (hnone : ao = none → m = 0 ∧ c = 0) (hl : news.length = m * size)
    (hnews : ∀ ad, ao = some ad → ∀ j u, news[j]? = some u → w.cell? (ad.add j) = some u) (h1 : ∀ u ∈ news, u.oneCell' = true)
    (h63 : n + m ≤ maxLen) (hbytes : (n + m) * bytes ≤ 140737488355328) (hbase : base ≤ w.heap.size)
    (h : ∀ a' c' w', w'.ownsRow base e size (.slice a' (n + m) c') (n + m) (xs ++ news) → w.grownBy w' (Value.slice a0 n c0).ownBlock → (∀ g, a' = some ⟨g, 0, none⟩ → a0 = some ⟨g, 0, none⟩ ∨ g = w.heap.size) → wpList P ops Q rest (a.put o.dst (.slice a' (n + m) c')) w') : wpList P ops Q (o :: rest) a w :=
  wpList_plain hgd fun _ hK => wp_append_at s x t ho base e i z size bytes ht hi hz hsize hby hzs hsz a0 n c0 xs hs hown ao m c news hx hnone hl hnews h1 h63 hbytes hbase fun a' c' w' h2 h3 h4 => hK _ _ (h a' c' w' h2 h3 h4)
theorem mwants_g (zs : List Int) {b : Nat} {most : Int} {T : List KV} {P : List SM} {S : Nat → Prop} (w : World) (h : MAtP w b most T P S) (hl : P.length ≤ 1000) (hz : natsZ (wantsL most T P) = zs) :
    Calls Tryz.prog 41 #[.pointer (some ⟨b, 0, none⟩)] w (RetZ w zs) := by
  obtain ⟨L, m, e⟩ := h
  subst e hz
  rw [List.length_map] at hl
  have hw : wantsL most T (L.map spl) = wantsL most T L := by
    unfold wantsL wantN
    rw [done_spl, List.length_map]
    simp only [getD_spl]
    rfl
  rw [hw]
  exact mwants_any b w m hl
section
variable {B0 : Nat} {w w' : World} {col col' : Nat → Nat} {i : CoI} {c : Cfg} {W C : Nat} {s : Cs} {iq : Nat → QI} {F : Nat → Prop}
/-- so far: the coordinator, the letters, the numbers that are gone through -/
def WkW (B0 : Nat) (w : World) (col : Nat → Nat) (i : CoI) (c : Cfg) (W C : Nat) (s' : Cs) (L : List LT) (a : Option Addr) (cc : Nat) (a3 : Option Addr) (c3 : Nat) (zs : List Int) (wx : World) : Prop :=
  ∃ col' iq', CoX B0 wx col' i c W C s' iq' ∧ ExtG w col wx col' ∧ wx.ownsRow w.heap.size 68 2 (.slice a L.length cc) L.length (ltV L) ∧ (∀ g, a = some ⟨g, 0, none⟩ → col' g = 9) ∧ wx.ownsRow 0 3 1 (.slice a3 zs.length c3) zs.length (numsV zs) ∧ ∀ g, a3 = some ⟨g, 0, none⟩ → col' g = 9
theorem keep9 {wx w4 : World} {col' col4 : Nat → Nat} {B : Nat} {e : TypeId} {size n cc : Nat} {a : Option Addr} {xs : List Value} (E : ExtG wx col' w4 col4) (h : wx.ownsRow B e size (.slice a n cc) n xs) (h9 : ∀ g, a = some ⟨g, 0, none⟩ → col' g = 9) : w4.ownsRow B e size (.slice a n cc) n xs ∧ ∀ g, a = some ⟨g, 0, none⟩ → col4 g = 9 :=
  ⟨mowns_block0 h (fun g hg => E.1.block g (h.lt g (by rw [hg]; rfl)).2 (fun x => x (h9 g hg))), fun g hg => (E.2 g (h.lt g (by rw [hg]; rfl)).2).trans (h9 g hg)⟩
theorem wkStep {w4 w5 : World} {s4 : Cs} {L lts : List LT} {a a5 a3 : Option Addr} {cc c5 c3 : Nat} {zs : List Int} {col4 : Nat → Nat} {iq4 : Nat → QI} (h : CoX B0 w4 col4 i c W C s4 iq4) (E : ExtG w col w4 col4) (ho : w4.ownsRow w.heap.size 68 2 (.slice a L.length cc) L.length (ltV L)) (h9 : ∀ g, a = some ⟨g, 0, none⟩ → col4 g = 9)
    (hz : w4.ownsRow 0 3 1 (.slice a3 zs.length c3) zs.length (numsV zs)) (hz9 : ∀ g, a3 = some ⟨g, 0, none⟩ → col4 g = 9) (ho5 : w5.ownsRow w.heap.size 68 2 (.slice a5 (L.length + lts.length) c5) (L.length + lts.length) (ltV L ++ ltV lts)) (hg : w4.grownBy w5 (Value.slice a L.length cc).ownBlock)
    (hat : ∀ g, a5 = some ⟨g, 0, none⟩ → a = some ⟨g, 0, none⟩ ∨ g = w4.heap.size) : WkW B0 w col i c W C s4 (L ++ lts) a5 c5 a3 c3 zs w5 := by
  have hty : (3 : TypeId) ≠ 68 := by decide
  have hF : ∀ k, some k = (Value.slice a L.length cc).ownBlock → col4 k = 9 := fun k hk => h9 k (mownb ho hk)
  have hC5 : CoX B0 w5 col4 i c W C s4 iq4 := h.own (turn_grown hg) hF
  refine ⟨col4, iq4, hC5, ⟨E.1.trans' (turn_grown hg) (fun k hk => ?_), E.2⟩, by rw [List.length_append, ltV_app]; exact ho5, fun g hg5 => ?_, hz.kept hg (own_apart24 hz ho hty), hz9⟩
  · exact Or.inr (by
      have := (ho.lt k hk.symm).1; exact this)
  · rcases hat g hg5 with e | e
    · exact h9 g e
    · exact h.g.nw g (by omega)
theorem retC_open {s' : Cs} {L : List LT} {a : Option Addr} {cc : Nat} (h : RetC B0 w col i c W C s' L (.returned (.slice a L.length cc)) w') : ∃ col' iq', CoX B0 w' col' i c W C s' iq' ∧ ExtG w col w' col' ∧ w'.ownsRow w.heap.size 68 2 (.slice a L.length cc) L.length (ltV L) ∧ ∀ g, a = some ⟨g, 0, none⟩ → col' g = 9 := by
  obtain ⟨col', iq', a', cc', he, h1, h2, h3, h4⟩ := h
  injection he with he; injection he with e1 e2 e3
  subst e1; subst e3
  exact ⟨col', iq', h1, h2, h3, h4⟩
set_option maxRecDepth 100000 in
set_option maxHeartbeats 3200000 in
theorem gWake_any (T : Nat) (draw : Int) (w : World) (h : CoX B0 w col i c W C s iq) (ho : SeeOk c s T) (hT3 : 3 ≤ T) (hT : T ≤ 10000000) (hC : 0 < C ∧ C ≤ 3) (hS : c.S = (s.ss.n : Int)) (hS4 : s.ss.n ≤ 4) :
    Calls Tryz.prog 15 #[.pointer (some ⟨i.x, 0, none⟩), .int .i64 draw] w (RetC B0 w col i c W C (wakeTo c W C draw s s.ss.n).1 (wakeTo c W C draw s s.ss.n).2) := by
  obtain ⟨i0, hi, hz0, hz1, hz2⟩ := info_parts letter_infoG
  have CX := Lib.hid h
  have HO := Lib.hid ho
  have PR := Lib.hid (show 3 ≤ T ∧ T ≤ 10000000 ∧ (0 < C ∧ C ≤ 3) ∧ s.ss.n ≤ 4 ∧ c.kn ≤ 5 from ⟨hT3, hT, hC, hS4, h.g.hk⟩)
  obtain ⟨N, hN⟩ : ∃ N, s.ss.n = N := ⟨_, rfl⟩
  have HN := Lib.hid hN
  have x4 : w.cell? ⟨i.x, 4, none⟩ = some (.int .i64 (N : Int)) := by rw [← hN, ← hS]; exact co_cell h.g.box rfl
  rw [hN]
  have HSS := Lib.hid (fun k (hk : k ≤ N) => wake_ok (W := W) (draw := draw) ho hT3 hC h.g.hk k (by rw [hN]; exact hk))
  clear h ho hT3 hT hC hS hS4 hN
  go_enter Tryz.func15, Tryz.ntmps15
  go_wp2_with fail
  go_loopw [5, 6, 7, 8, 10, 18] (fun ov _ _ _ _ iv wr => ∃ k : Nat, k ≤ N ∧ iv = .int .i64 k ∧ ∃ L a cc, ov = .slice a (List.length L) cc ∧ Hid (L = (wakeTo c W C draw s k).2 ∧ RetC B0 w col i c W C (wakeTo c W C draw s k).1 L (.returned (.slice a (List.length L) cc)) wr)) (fun _ _ _ _ _ iv _ => N - (intOf iv).toNat)
  case atStart => exact ⟨0, by omega, rfl, [], none, 0, rfl, Lib.hid ⟨rfl, col, iq, none, 0, rfl, CX.out, ExtG.refl _ _, World.ownsRow_nil _ _ _ _, fun g hg => by cases hg⟩⟩
  case round =>
    obtain ⟨k, hk, rfl, L, a, cc, rfl, hR⟩ := hrel
    by_cases hlt : k < N
    · obtain ⟨r, hr⟩ : ∃ r, wakeTo c W C draw s k = r := ⟨_, rfl⟩
      have OK := Lib.hid (HSS.out k hk)
      have HR := Lib.hid hr
      rw [hr] at hR OK
      obtain ⟨col1, iq1, hC1, hE1, hO1, h91⟩ := retC_open hR.out.2
      have C1 := Lib.hid hC1; have E1 := Lib.hid hE1; have O1 := Lib.hid hO1; have N1 := Lib.hid h91
      have HL := Lib.hid hR.out.1
      have wfk : wfI (k : Int) := by unfold wfI; have := PR.out; have := HN.out; exact wf64 (by omega)
      have ek : IntKind.i64.wrap ((k : Int) + 1) = ((k + 1 : Nat) : Int) := by have := PR.out; have := HN.out; rw [IntKind.wrap_i64]; omega
      have CAt := Lib.hid (at_any i.bs i.bo i.ba (k : Int) wr hC1.g.S wfk)
      have x15 : wr.cell? ⟨i.x, 15, none⟩ = some (.pointer (some ⟨i.bs, 0, none⟩)) := co_cell hC1.g.box rfl
      have x17 : wr.cell? ⟨i.x, 17, none⟩ = some (.map (some i.bq)) := co_cell hC1.g.box rfl
      clear hC1 hE1 hO1 h91 hR hr x4
      by_cases h0 : 0 < r.1.ss.L k
      · obtain ⟨j, hj, hLk, hac⟩ := OK.out.1.a k (by rw [OK.out.2.1, HN.out]; exact hlt) h0
        obtain ⟨id, hid⟩ : ∃ z : Int, ((j + 1 : Nat) : Int) = z := ⟨_, rfl⟩
        obtain ⟨q, hq⟩ : ∃ q, r.1.qs.getD j q0 = q := ⟨_, rfl⟩
        obtain ⟨x, hx⟩ : ∃ x, iq1 j = x := ⟨_, rfl⟩
        obtain ⟨l, hl⟩ : ∃ l, wantsOf q = l := ⟨_, rfl⟩
        obtain ⟨n, hn⟩ : ∃ n, l.length = n := ⟨_, rfl⟩
        have HAT : atS r.1.ss (k : Int) = some id := by unfold atS; rw [if_pos ⟨by omega, by simpa using h0⟩, Int.toNat_natCast, hLk, hid]
        rw [HAT] at CAt
        have wf : wfI id := by unfold wfI; have := OK.out.1.n; exact wf64 (by omega)
        have hqk := OK.out.1.q j hj hac
        have HQK := Lib.hid hqk
        have HJ := Lib.hid hj; have HAC := Lib.hid hac; have HID := Lib.hid hid; have HLN := Lib.hid hn
        have HWE := Lib.hid (show wakeTo c W C draw s (k + 1) = ((seeTo c W C k j draw l n r.1).1, L ++ (seeTo c W C k j draw l n r.1).2) from by
          show slotTo c W C draw k (wakeTo c W C draw s k) = _
          rw [HR.out, slot_eq hLk, hq, hl, hn, ← HL.out])
        have HSO := Lib.hid (seeTo_ok (W := W) (si := k) (draw := draw) (l := l) OK.out.1 (by have := PR.out; omega) PR.out.2.2.1 hj hac (fun m hm => by rw [← hqk.1, hq]; rw [← hl] at hm ⊢; exact wants_lt hm))
        have hlb : ∀ m, m < n → l.getD m 0 < c.kn + 1 := fun m hm => by rw [← hqk.1, hq]; rw [← hn, ← hl] at hm; rw [← hl]; exact wants_lt hm
        have HLB := Lib.hid hlb
        have hn6 : n ≤ 6 := by
          have := wants_len q; rw [hl, hn, ← hq, hqk.1] at this; have := PR.out; omega
        have HN6 := Lib.hid hn6
        have QA := Lib.hid (show QAtG wr col1 B0 (10 + 4 * j) id q x from by rw [← hq, ← hx, ← hid]; exact C1.out.q j hj)
        have FQ := Lib.hid (show qmG iq1 r.1.qs.length id = some (.pointer (some ⟨x.qb, 0, none⟩)) from by rw [← hid, ← hx]; exact qmG_at iq1 _ j hj)
        have MQ := Lib.hid (show MapV wr i.bq r.1.qs.length (qmG iq1 r.1.qs.length) from C1.out.g.Q)
        obtain ⟨hmp, Sm, hm, -⟩ := QA.out.m (by rw [← hq]; exact hac)
        have y7 : wr.cell? ⟨x.qb, 7, none⟩ = some (.pointer (some ⟨x.bm, 0, none⟩)) := by rw [← hmp]; exact co_cell QA.out.b rfl
        have CWa := Lib.hid (mwants_g (natsZ l) wr hm (by rw [← hq, hqk.1]; have := PR.out; omega) (by rw [← hl]; rfl))
        unfold RetZ at CWa
        rw [natsZ_len, hn] at CWa
        clear hj hLk hac hid hq hx hl hn HAT hqk hlb hn6 hmp hm h0
        go_wp2_with fail
        refine CAt.out.mono ?_
        rintro e w2 ⟨rfl, rfl⟩
        go_wp2_with (first | (at_lookup; refine wpList_get_mv mapTq rfl (.tmp 35) (.tmp 36) rfl rfl MQ.out id rfl wf (.pointer (some ⟨x.qb, 0, none⟩)) (by rw [FQ.out]; rfl) ?_) | fail)
        refine CWa.out.mono ?_
        rintro e w3 ⟨a3, c3, rfl, ho3, hb3⟩
        have W3 := Lib.hid (show WkW B0 w col i c W C r.1 L a cc a3 c3 (natsZ l) w3 from ⟨col1, iq1, C1.out.below hb3, E1.out.below hb3, owns_below O1.out hb3, N1.out, by rw [natsZ_len, HLN.out]; exact base_less24 ho3 (Nat.zero_le _), fun g hg => C1.out.g.nw g (ho3.lt g (by rw [hg]; rfl)).1⟩)
        clear ho3 hb3 CAt CWa x15 x17 y7 MQ FQ QA C1 E1 O1 N1
        go_wp2_with fail
        go_loopw [5, 10, 43] (fun ov _ iv wx => ∃ m : Nat, m ≤ n ∧ iv = .int .i64 m ∧ ∃ L' a' cc', ov = .slice a' (List.length L') cc' ∧ Hid (L' = L ++ (seeTo c W C k j draw l m r.1).2 ∧ WkW B0 w col i c W C (seeTo c W C k j draw l m r.1).1 L' a' cc' a3 c3 (natsZ l) wx)) (fun _ _ iv _ => n - (intOf iv).toNat)
        case atStart => exact ⟨0, by omega, rfl, L, a, cc, rfl, Lib.hid ⟨by simp [seeTo], W3.out⟩⟩
        case round =>
          obtain ⟨m, hm, rfl, L', a', cc', rfl, hW⟩ := hrel
          by_cases hltm : m < n
          · obtain ⟨s2, hs2⟩ : ∃ z, (seeTo c W C k j draw l m r.1).1 = z := ⟨_, rfl⟩
            have HS2 := Lib.hid hs2
            have SO := Lib.hid (HSO.out m (by rw [HLN.out]; exact hm))
            rw [hs2] at hW SO
            obtain ⟨col2, iq2, hC2, hE2, hO2, h92, hZ2, hz92⟩ := hW.out.2
            have HL2 := Lib.hid hW.out.1
            obtain ⟨sh, hsh⟩ : ∃ z, l.getD m 0 = z := ⟨_, rfl⟩
            have CSee := Lib.hid (gSee_any k j sh (T + 6 * k + m) draw wr hC2 SO.out.1 (by have := PR.out; have := HN.out; have := HN6.out; omega) (by rw [SO.out.2.2.1]; exact HJ.out) (by rw [SO.out.2.2.2.1]; exact HAC.out) (by rw [← hsh]; exact HLB.out m hltm) PR.out.2.2.1 (by have := PR.out; have := HN.out; omega))
            have hL4 : L'.length ≤ 1000 := by
              rw [HL2.out, List.length_append, HL.out]
              have := OK.out.2.2.2; have := SO.out.2.2.2.2; have := PR.out; have := HN.out; have := HN6.out; omega
            have HL4 := Lib.hid hL4
            rw [natsZ_len, HLN.out] at hZ2
            obtain ⟨g3, rfl⟩ : ∃ g3, a3 = some ⟨g3, 0, none⟩ := by
              obtain ⟨g, cap, e, -⟩ := hZ2.form (by omega)
              injection e with e
              exact ⟨g, e⟩
            have kz : wr.cell? ⟨g3, m, none⟩ = some (.int .i64 (sh : Int)) := by
              refine own_cells24 hZ2 m ?_
              rw [← hsh]
              unfold numsV natsZ
              simp [List.getD_eq_getElem?_getD, List.getElem?_eq_getElem (show m < l.length by rw [HLN.out]; exact hltm)]
            have C2 := Lib.hid hC2; have E2 := Lib.hid hE2; have O2 := Lib.hid hO2; have N2 := Lib.hid h92; have Z2 := Lib.hid hZ2; have NZ2 := Lib.hid hz92
            have ekm : IntKind.i64.wrap ((m : Int) + 1) = ((m + 1 : Nat) : Int) := by have := HN6.out; rw [IntKind.wrap_i64]; omega
            have HSE := Lib.hid (show seeTo c W C k j draw l (m + 1) r.1 = (seeS c W C k j sh draw s2, (seeTo c W C k j draw l m r.1).2 ++ seeL c W C k j sh draw s2) from by
              show (seeS c W C k j (l.getD m 0) draw (seeTo c W C k j draw l m r.1).1, (seeTo c W C k j draw l m r.1).2 ++ seeL c W C k j (l.getD m 0) draw (seeTo c W C k j draw l m r.1).1) = _
              rw [hsh, HS2.out])
            obtain ⟨lts, hlts⟩ : ∃ z, seeL c W C k j sh draw s2 = z := ⟨_, rfl⟩
            have HLT := Lib.hid (show lts.length ≤ 1 from by rw [← hlts]; exact seeL_len)
            rw [hlts] at CSee HSE
            rw [HID.out] at CSee
            clear hs2 hC2 hE2 hO2 h92 hZ2 hz92 hsh hlts hW hL4
            go_wp2_with fail
            refine CSee.out.mono ?_
            rintro e w4 ⟨col4, iq4, a4, c4, rfl, hC4, hE4, hO4, h94⟩
            have O4 := Lib.hid (keep9 hE4 O2.out N2.out)
            have Z4 := Lib.hid (keep9 hE4 Z2.out NZ2.out)
            have C4 := Lib.hid hC4; have E4 := Lib.hid (E2.out.trans hE4); have P4 := Lib.hid hO4
            clear hC4 hE4 hO4 h94 CSee kz
            go_wp2_with (at_builtin; refine wpList_append_at rfl (.tmp 47) (.tmp 53) 32 rfl w.heap.size 68 i0 _ 2 24 Tryz.underlying32 hi hz0 hz1 hz2 rfl (by decide) a' (List.length L') cc' (ltV L') rfl O4.out.1 a4 (List.length lts) c4 (ltV lts) rfl (own_noneG P4.out) (ltV_len lts) (own_newsG P4.out) (ltV_one lts) (by have := HL4.out; have := HLT.out; unfold maxLen; omega) (by have := HL4.out; have := HLT.out; omega) (E4.out.1.size) ?_; intro a5 c5 w5 hown5 hg5 hat5)
            have WW := Lib.hid (show L' ++ lts = L ++ (seeTo c W C k j draw l (m + 1) r.1).2 ∧ WkW B0 w col i c W C (seeTo c W C k j draw l (m + 1) r.1).1 (L' ++ lts) a5 c5 (some ⟨g3, 0, none⟩) c3 (natsZ l) w5 from by
              rw [HSE.out]
              refine ⟨by rw [HL2.out, List.append_assoc], wkStep C4.out E4.out O4.out.1 O4.out.2 ?_ Z4.out.2 hown5 hg5 hat5⟩
              rw [natsZ_len, HLN.out]; exact Z4.out.1)
            clear hown5 hg5 hat5
            go_wp2_with fail
            go_roundw
            case rel => exact ⟨m + 1, by omega, by first | rfl | simp [ekm], L' ++ lts, a5, c5, by rw [List.length_append], WW⟩
            case measure => simp [intOf]; omega
          · obtain rfl : m = n := by omega
            have RR := Lib.hid (show L' = (wakeTo c W C draw s (k + 1)).2 ∧ RetC B0 w col i c W C (wakeTo c W C draw s (k + 1)).1 L' (.returned (.slice a' (List.length L') cc')) wr from by
              rw [HWE.out]
              obtain ⟨col', iq', h1, h2, h3, h4, -, -⟩ := hW.out.2
              exact ⟨hW.out.1, col', iq', a', cc', rfl, h1, h2, h3, h4⟩)
            go_wp2_with fail
            go_roundw
            case rel => exact ⟨k + 1, by omega, by first | rfl | simp [ek], L', a', cc', rfl, RR⟩
            case measure => simp [intOf]; omega
      · have HAT : atS r.1.ss (k : Int) = none := by unfold atS; rw [if_neg (by simpa using h0)]
        rw [HAT] at CAt
        have RR := Lib.hid (show L = (wakeTo c W C draw s (k + 1)).2 ∧ RetC B0 w col i c W C (wakeTo c W C draw s (k + 1)).1 L (.returned (.slice a (List.length L) cc)) wr from by
          have e : wakeTo c W C draw s (k + 1) = r := by
            show slotTo c W C draw k (wakeTo c W C draw s k) = _
            rw [HR.out]; unfold slotTo; rw [if_neg h0]
          rw [e]
          exact ⟨HL.out, col1, iq1, a, cc, rfl, C1.out, E1.out, O1.out, N1.out⟩)
        clear HAT h0 x17
        go_wp2_with fail
        refine CAt.out.mono ?_
        rintro e w2 ⟨rfl, rfl⟩
        go_wp2_with fail
        go_roundw
        case rel => exact ⟨k + 1, by omega, by first | rfl | simp [ek], L, a, cc, rfl, RR⟩
        case measure => simp [intOf]; omega
    · obtain rfl : k = N := by omega
      have FIN := Lib.hid (show RetC B0 w col i c W C (wakeTo c W C draw s k).1 (wakeTo c W C draw s k).2 (.returned (.slice a (List.length L) cc)) wr from by
        have h := hR.out.2
        rw [hR.out.1] at h ⊢
        exact h)
      go_wp2_with fail
      go_ret
      exact FIN.out
end
end Go.Proofs.YtblipdmagfiigaaGreat
namespace Go.Proofs.YtblipdmagfiigaaGreat
open Go.RowKit
set_option linter.unusedVariables false
set_option maxRecDepth 20000
theorem cop_at (W C s j : Nat) (h : j < C) : (Pl.cop W C s).getD j 0 = ((1 + (s + j) % W : Nat) : Int) := by
  unfold Pl.cop
  simp [List.getD_eq_getElem?_getD, h]
theorem cop_bd (W C s j : Nat) (h : j < C) (hW : 0 < W) : 1 ≤ (Pl.cop W C s).getD j 0 ∧ (Pl.cop W C s).getD j 0 ≤ W := by
  rw [cop_at _ _ _ _ h]
  have := Nat.mod_lt (s + j) hW
  omega
theorem cutAll_nil (si : Nat) : ∀ k, cutAll si k [] = []
  | 0 => rfl
  | k + 1 => by unfold cutAll; rw [cutAll_nil si k]; rfl
/-- slots behind the first one are free: a Wake sees to the first alone -/
theorem wake_one {c : Cfg} {W C T : Nat} {draw : Int} {s : Cs} (h : SeeOk c s T) (hT : 3 ≤ T) (hC : 0 < C ∧ C ≤ 3) (hk5 : c.kn ≤ 5) (hf : ∀ k, 0 < k → ¬ 0 < s.ss.L k) :
    ∀ n, n + 1 ≤ s.ss.n → wakeTo c W C draw s (n + 1) = slotTo c W C draw 0 (s, [])
  | 0, _ => rfl
  | n + 1, hn => by
    have ih := wake_one (W := W) (C := C) (draw := draw) h hT hC hk5 hf n (by omega)
    have hss := (wake_ok (W := W) (draw := draw) h hT hC hk5 (n + 1) (by omega)).2.1
    show slotTo c W C draw (n + 1) (wakeTo c W C draw s (n + 1)) = _
    rw [ih] at hss ⊢
    have : slotTo c W C draw (n + 1) (slotTo c W C draw 0 (s, [])) = slotTo c W C draw 0 (s, []) := by
      rw [slotTo, hss, if_neg (hf (n + 1) (by omega))]
    exact this
theorem SeeOk.at {c : Cfg} {s : Cs} {T : Nat} (h : SeeOk c s T) (t : Int) (ht : 0 ≤ t ∧ t ≤ 1000000) : SeeOk c { s with now := t } T := ⟨h.g, h.n, ht, h.q, h.a⟩
end Go.Proofs.YtblipdmagfiigaaGreat
namespace Go.Proofs.YtblipdmagfiigaaGreat
open Go.RowKit
set_option linter.unusedVariables false
set_option maxRecDepth 20000
theorem advQ_P (q : Qy) : (advQ q).P.length = q.P.length := by
  obtain ⟨x, P', h1, h2, h3⟩ := tellF_more q.N 10 q.its q.P []
  unfold advQ
  rw [h3]
  exact h2
theorem shOf_new {c : Cfg} {s : Cs} {t : Tx} {K N : Int} {k : Nat} (h : (s.qs.getD 0 q0).sh = List.replicate (c.kn + 1) sh0) : shOf s 0 k = sh0 := by
  unfold shOf
  rw [h, List.getD_eq_getElem?_getD, List.getElem?_replicate]
  split <;> rfl
/-- the only query -/
structure OneQ (c : Cfg) (t : Tx) (K N : Int) (s0 s : Cs) : Prop where
  nw : s.now = s0.now
  ls : s.ls = s0.ls
  M : s.M = []
  n : s.ss.n = s0.ss.n
  far : ∀ k, 0 < k → ¬ 0 < s.ss.L k
  ql : s.qs.length = 1
  k : (s.qs.getD 0 q0).t = t ∧ (s.qs.getD 0 q0).K = K ∧ (s.qs.getD 0 q0).N = N
  z : (advD (newQ c t K N) = true ∧ ¬ 0 < s.ss.L 0 ∧ (s.qs.getD 0 q0).ac = false ∧ (s.qs.getD 0 q0).dn = true) ∨ (advD (newQ c t K N) = false ∧ s.ss.L 0 = 1 ∧ s.qs.getD 0 q0 = advQ (newQ c t K N))
theorem oneQ {c : Cfg} {t : Tx} {K N : Int} {S : Nat} {s : Cs} (hq : s.qs = []) (hss : s.ss = newSl S) (hM : s.M = []) (hS : 1 ≤ S) : OneQ c t K N s (advS c 0 0 (subC c t K N 0 s)) := by
  have hg : (subC c t K N 0 s).qs.getD 0 q0 = newQ c t K N := by unfold subC; rw [hq]; rfl
  have hz : ∀ k : Nat, 0 < k → ¬ 0 < (gaveS (newSl S) 0).L k := fun k hk => by
    unfold gaveS; dsimp only; rw [upd_ne _ _ _ _ (by omega)]; simp [newSl]
  unfold advS
  rw [hg]
  cases hd : advD (newQ c t K N) with
  | true =>
    rw [if_pos rfl]
    unfold finC subC
    dsimp only
    rw [hq, hss, hM]
    refine ⟨rfl, rfl, cutAll_nil 0 _, (show S = s.ss.n from by rw [hss]; rfl), fun k hk => ?_, rfl, ⟨rfl, rfl, rfl⟩, Or.inl ⟨hd, ?_, rfl, rfl⟩⟩
    · show ¬ 0 < upd (gaveS (newSl S) 0).L 0 0 k
      rw [upd_ne _ _ _ _ (by omega)]; exact hz k hk
    · show ¬ 0 < upd (gaveS (newSl S) 0).L 0 0 0
      rw [upd_at]; omega
  | false =>
    rw [if_neg (by decide)]
    unfold subC
    dsimp only
    rw [hq, hss, hM]
    refine ⟨rfl, rfl, rfl, (show S = s.ss.n from by rw [hss]; rfl), hz, rfl, ⟨rfl, rfl, rfl⟩, Or.inr ⟨hd, ?_, rfl⟩⟩
    show (gaveS (newSl S) 0).L 0 = 1
    unfold gaveS; dsimp only; rw [upd_at]; rfl
theorem oneQ_see {c : Cfg} {t : Tx} {K N : Int} {s0 s : Cs} (h : OneQ c t K N s0 s) (hg : GoodL s0.ls) (hn : 0 ≤ s0.now ∧ s0.now ≤ 1000000) : SeeOk c s 3 := by
  refine ⟨by rw [h.ls]; exact hg, by rw [h.ql]; omega, by rw [h.nw]; exact hn, fun j hj hac => ?_, fun k hk h0 => ?_⟩
  · rw [h.ql] at hj
    obtain rfl : j = 0 := by omega
    rcases h.z with ⟨-, -, h2, -⟩ | ⟨-, -, h2⟩
    · rw [h2] at hac; cases hac
    · refine ⟨by rw [h2, advQ_P]; unfold newQ; dsimp only; rw [List.length_map, leastsL_len], by rw [h2]; exact List.length_replicate, fun k hk => ?_⟩
      rw [shOf_new (c := c) (t := t) (K := K) (N := N) (by rw [h2]; rfl)]
      unfold sh0; dsimp only; omega
  · by_cases e : k = 0
    · subst e
      rcases h.z with ⟨-, h1, -⟩ | ⟨-, h1, h2⟩
      · exact absurd h0 h1
      · exact ⟨0, by rw [h.ql]; omega, by rw [h1]; rfl, by rw [h2]; rfl⟩
    · exact absurd h0 (h.far k (by omega))
end Go.Proofs.YtblipdmagfiigaaGreat
namespace Go.Proofs.YtblipdmagfiigaaGreat
open Go.RowKit
set_option linter.unusedVariables false
set_option maxRecDepth 20000
/-- workers were heard: f says when last, -1 never -/
structure HeaI (W S : Nat) (T : Int) (f : Nat → Int) (s : Cs) : Prop where
  qs : s.qs = []
  ss : s.ss = newSl S
  M : s.M = []
  g : GoodL s.ls
  N : s.ls.N = (W : Int)
  te : s.ls.T = T
  nw : 0 ≤ s.now
  w : ∀ z, 1 ≤ z → z ≤ W → (f z = -1 ∧ s.ls.E (z - 1) = 0 ∧ s.ls.L (z - 1) = 0 ∧ s.ls.U (z - 1) = 0) ∨ (0 ≤ f z ∧ f z ≤ s.now ∧ s.ls.E (z - 1) = 1 ∧ s.ls.L (z - 1) = 1 ∧ s.ls.U (z - 1) = f z + T)
theorem heaI_0 {W S : Nat} {T : Int} {f : Nat → Int} (hW : 1 ≤ W ∧ W ≤ 5) (hT : 1 ≤ T ∧ T ≤ 1000) (hf : ∀ z, 1 ≤ z → z ≤ W → f z = -1) : HeaI W S T f ⟨0, newS W T, newSl S, [], []⟩ :=
  ⟨rfl, rfl, rfl, new_is_good ⟨by omega, hT⟩, rfl, rfl, Int.le_refl _, fun z h1 h2 => Or.inl ⟨hf z h1 h2, rfl, rfl, rfl⟩⟩
theorem HeaI.tick {W S : Nat} {T : Int} {f : Nat → Int} {s : Cs} (h : HeaI W S T f s) : HeaI W S T f { s with now := s.now + 1 } :=
  ⟨h.qs, h.ss, h.M, h.g, h.N, h.te, by have := h.nw; show 0 ≤ s.now + 1; omega, fun z h1 h2 => by
    rcases h.w z h1 h2 with e | ⟨a, b, e⟩
    · exact Or.inl e
    · exact Or.inr ⟨a, by show f z ≤ s.now + 1; omega, e⟩⟩
theorem HeaI.hear {W S : Nat} {T : Int} {f : Nat → Int} {s : Cs} (h : HeaI W S T f s) (k : Nat) (hk : 1 ≤ k ∧ k ≤ W) (hT : 1 ≤ T ∧ T ≤ 1000) (hn : s.now ≤ 1000000) : HeaI W S T (fun j => if j = k then s.now else f j) (helS s (k : Int) 1) := by
  have hi : idxL (k : Int) = k - 1 := by unfold idxL; omega
  have h0 := h.nw
  have ha : helloArg s.ls (k : Int) 1 s.now := ⟨⟨by omega, by rw [h.N]; omega⟩, by unfold lived; omega, by unfold timedL; omega⟩
  obtain ⟨X, hX, hXE, hXL, hXU, hXN, hXT⟩ : ∃ X, helloS s.ls (k : Int) 1 s.now = X ∧ (∀ j, X.E j = if j = k - 1 then 1 else s.ls.E j) ∧ (∀ j, X.L j = if j = k - 1 then 1 else s.ls.L j) ∧ (∀ j, X.U j = if j = k - 1 then s.now + T else s.ls.U j) ∧ X.N = s.ls.N ∧ X.T = s.ls.T := by
    refine ⟨_, rfl, ?_⟩
    unfold helloS
    rw [if_pos ha, hi]
    rcases h.w k hk.1 hk.2 with ⟨a1, a2, a3, a4⟩ | ⟨a1, a2, a3, a4, a5⟩
    · rw [a3, if_neg (by omega)]
      unfold bumped
      rw [a3, if_pos (by omega)]
      refine ⟨fun j => ?_, fun j => ?_, fun j => ?_, rfl, rfl⟩
      · show updL s.ls.E (k - 1) (s.ls.E (k - 1) + 1) j = _
        by_cases e : j = k - 1
        · subst e; rw [updL_at, a2, if_pos rfl]; rfl
        · rw [updL_ne _ _ _ _ e, if_neg e]
      · show updL s.ls.L (k - 1) 1 j = _
        by_cases e : j = k - 1
        · subst e; rw [updL_at, if_pos rfl]
        · rw [updL_ne _ _ _ _ e, if_neg e]
      · show updL s.ls.U (k - 1) (max (s.ls.U (k - 1)) (s.now + s.ls.T)) j = _
        by_cases e : j = k - 1
        · subst e; rw [updL_at, a4, h.te, if_pos rfl]; omega
        · rw [updL_ne _ _ _ _ e, if_neg e]
    · rw [a4, if_neg (by omega)]
      unfold bumped
      rw [a4, if_neg (by omega)]
      refine ⟨fun j => ?_, fun j => ?_, fun j => ?_, rfl, rfl⟩
      · show s.ls.E j = _
        by_cases e : j = k - 1
        · subst e; rw [a3, if_pos rfl]
        · rw [if_neg e]
      · show s.ls.L j = _
        by_cases e : j = k - 1
        · subst e; rw [a4, if_pos rfl]
        · rw [if_neg e]
      · show updL s.ls.U (k - 1) (max (s.ls.U (k - 1)) (s.now + s.ls.T)) j = _
        by_cases e : j = k - 1
        · subst e; rw [updL_at, a5, h.te, if_pos rfl]; omega
        · rw [updL_ne _ _ _ _ e, if_neg e]
  refine ⟨h.qs, h.ss, h.M, hello_good h.g _ _ _, ?_, ?_, h.nw, fun z h1 h2 => ?_⟩
  · show (helloS s.ls _ 1 s.now).N = _
    rw [hX, hXN]; exact h.N
  · show (helloS s.ls _ 1 s.now).T = _
    rw [hX, hXT]; exact h.te
  · show (_ = _ ∧ (helloS s.ls _ 1 s.now).E _ = _ ∧ (helloS s.ls _ 1 s.now).L _ = _ ∧ (helloS s.ls _ 1 s.now).U _ = _) ∨ (_ ∧ _ ∧ (helloS s.ls _ 1 s.now).E _ = _ ∧ (helloS s.ls _ 1 s.now).L _ = _ ∧ (helloS s.ls _ 1 s.now).U _ = _)
    rw [hX, hXE, hXL, hXU]
    by_cases e : z = k
    · subst e
      rw [if_pos rfl, if_pos rfl, if_pos rfl, if_pos rfl]
      exact Or.inr ⟨h0, Int.le_refl _, rfl, rfl, rfl⟩
    · have en : ¬ z - 1 = k - 1 := by omega
      rw [if_neg en, if_neg en, if_neg en, if_neg e]
      exact h.w z h1 h2
/-- who lives, and who has an epoch, as f says -/
theorem HeaI.live {W S : Nat} {T : Int} {f : Nat → Int} {s : Cs} (h : HeaI W S T f s) (z : Nat) (h1 : 1 ≤ z) (h2 : z ≤ W) : (liveOk s.ls (z : Int) s.now ↔ 0 ≤ f z ∧ s.now ≤ f z + T) ∧ (epochS s.ls (z : Int) = 0 ↔ f z < 0) := by
  have hi : idxL (z : Int) = z - 1 := by unfold idxL; omega
  have hw : workerL s.ls (z : Int) := ⟨by omega, by rw [h.N]; omega⟩
  unfold liveOk epochS
  rw [if_pos hw, hi]
  rcases h.w z h1 h2 with ⟨a1, a2, a3, a4⟩ | ⟨a1, a2, a3, a4, a5⟩
  · rw [a2]; refine ⟨⟨fun x => by omega, fun x => by omega⟩, by omega⟩
  · rw [a3, a5]; refine ⟨⟨fun x => ⟨a1, x.2.2⟩, fun x => ⟨hw, by omega, x.2⟩⟩, by omega⟩
/-- nothing waits of a new query -/
theorem heads_new (zs : List Int) : ∀ n, headsN (zs.map mkS) n = []
  | 0 => rfl
  | n + 1 => by
    unfold headsN
    rw [heads_new zs n]
    unfold headOf
    have h : ((zs.map mkS).getD n sm0).wn = 0 := by
      rw [List.getD_eq_getElem?_getD, List.getElem?_map]
      cases zs[n]? <;> rfl
    rw [h]; rfl
theorem tellF_new (most : Int) (zs : List Int) (T : List KV) (out : List KV) : ∀ f, tellF most f T (zs.map mkS) out = (T, zs.map mkS, out)
  | 0 => rfl
  | f + 1 => by
    unfold tellF
    rw [heads_new]
    split <;> simp
theorem advQ_new (c : Cfg) (t : Tx) (K N : Int) : advQ (newQ c t K N) = newQ c t K N := by
  unfold advQ
  rw [show tellF (newQ c t K N).N 10 (newQ c t K N).its (newQ c t K N).P [] = _ from tellF_new N (leastsL c.ks t K (c.kn + 1)) [] [] 10]
  rfl
/-- may shard sh have a word? -/
def wantB (c : Cfg) (t : Tx) (K : Int) (sh : Nat) : Bool := decide (0 ≤ leastK c.ks sh (lenS t) ∧ leastK c.ks sh (lenS t) ≤ K)
theorem prW_new (c : Cfg) (t : Tx) (K N : Int) (sh : Nat) (h : sh < c.kn + 1) : prW ((newQ c t K N).P.getD sh sm0) = wantB c t K sh := by
  have : (newQ c t K N).P.getD sh sm0 = mkS (leastV c.ks t K sh) := by
    unfold newQ leastsL
    dsimp only
    rw [List.getD_eq_getElem?_getD, List.getElem?_map, List.getElem?_map, List.getElem?_range h]; rfl
  rw [this]
  unfold prW mkS wantB leastV
  dsimp only
  by_cases h1 : leastK c.ks sh (lenS t) > K
  · rw [if_pos h1, decide_eq_false (show ¬ (0 ≤ leastK c.ks sh (lenS t) ∧ leastK c.ks sh (lenS t) ≤ K) from by omega)]; rfl
  · rw [if_neg h1]
    by_cases h2 : leastK c.ks sh (lenS t) < 0
    · rw [decide_eq_true h2, decide_eq_false (show ¬ (0 ≤ leastK c.ks sh (lenS t) ∧ leastK c.ks sh (lenS t) ≤ K) from by omega)]; rfl
    · rw [decide_eq_false h2, decide_eq_true (show 0 ≤ leastK c.ks sh (lenS t) ∧ leastK c.ks sh (lenS t) ≤ K from by omega)]; rfl
theorem wants_new (c : Cfg) (t : Tx) (K N : Int) (hd : advD (newQ c t K N) = false) : wantsOf (newQ c t K N) = (List.range (c.kn + 1)).filter (wantB c t K) := by
  unfold advD at hd
  rw [advQ_new] at hd
  unfold wantsOf wantsL
  rw [if_neg (by rw [hd]; decide)]
  unfold wantN
  rw [show (newQ c t K N).P.length = c.kn + 1 by unfold newQ; dsimp only; rw [List.length_map, leastsL_len]]
  exact List.filter_congr fun sh hsh => prW_new c t K N sh (List.mem_range.1 hsh)
end Go.Proofs.YtblipdmagfiigaaGreat
namespace Go.Proofs.YtblipdmagfiigaaGreat
open Go.RowKit
set_option linter.unusedVariables false
set_option maxRecDepth 20000
def toOf (s : Cs) (W C sh : Nat) : Int := (Pl.cop W C sh).getD (firstL24 s W C sh) 0
def gTo (s : Cs) (W C sh : Nat) : List Int := if epochS s.ls (toOf s W C sh) = 0 then [] else [toOf s W C sh]
theorem toOf_eq {W C sh : Nat} {s s' : Cs} (h1 : s'.ls = s.ls) (h2 : s'.now = s.now) : toOf s' W C sh = toOf s W C sh := by
  unfold toOf firstL24 liveP
  rw [h1, h2]
structure SeeF (W C si : Nat) (s : Cs) (l : List Nat) (m : Nat) (r : Cs × List LT) : Prop where
  a : ∀ k, m ≤ k → k < l.length → atM r.1.M (idT si (l.getD k 0)) = none
  v : r.2.map Prod.fst = (l.take m).flatMap (gTo s W C)
  ls : r.1.ls = s.ls
  nw : r.1.now = s.now
  ql : r.1.qs.length = s.qs.length
  Ml : r.1.M.length ≤ s.M.length + m
theorem seeF {c : Cfg} {W C si j : Nat} {draw : Int} {s : Cs} {l : List Nat} (hC : 0 < C) (hj : j < s.qs.length) (hl : l.Nodup) (hM0 : s.M = []) (hll : l.length ≤ 6) (hn : 0 ≤ s.now ∧ s.now ≤ 1000000) :
    ∀ m, m ≤ l.length → SeeF W C si s l m (seeTo c W C si j draw l m s)
  | 0, _ => ⟨fun k _ _ => by show atM s.M _ = none; rw [hM0]; rfl, rfl, rfl, rfl, rfl, Nat.le_refl _⟩
  | m + 1, hm => by
    have R := seeF (c := c) (W := W) (si := si) (j := j) (draw := draw) hC hj hl hM0 hll hn m (by omega)
    obtain ⟨r, hr⟩ : ∃ r, seeTo c W C si j draw l m s = r := ⟨_, rfl⟩
    rw [hr] at R
    obtain ⟨sh, hsh⟩ : ∃ sh, l.getD m 0 = sh := ⟨_, rfl⟩
    have hj' : j < r.1.qs.length := by rw [R.ql]; exact hj
    have ha := R.a m (Nat.le_refl _) (by omega)
    rw [hsh] at ha
    have hkr : seeK c si j sh r.1 = 0 := by
      unfold seeK
      rw [ha]; rfl
    obtain ⟨X, hX⟩ : ∃ X, newSh W C sh r.1 = X := ⟨_, rfl⟩
    have hS : seeS c W C si j sh draw r.1 = askAt c si j sh draw X r.1 := by
      unfold seeS
      rw [hkr, ← hX]; rfl
    have hLt : seeL c W C si j sh draw r.1 = askL c W C si j sh X.tu (seeS c W C si j sh draw r.1) := by
      unfold seeL
      rw [hkr, ← hX]; rfl
    have hwb := waitV_bd c.F c.P c.J X.tr draw
    have hgt : goodT (idT si sh) (r.1.now + waitV c.F c.P c.J X.tr draw) := by
      rw [R.nw]; unfold goodT idT; omega
    have hroom : idT si sh ∈ r.1.M.map TM.id ∨ r.1.M.length < 24 := Or.inr (by have := R.Ml; rw [hM0] at this; simp at this; omega)
    have hMs : ∀ id', atM (askAt c si j sh draw X r.1).M id' = if id' = idT si sh then some (r.1.now + waitV c.F c.P c.J X.tr draw) else atM r.1.M id' := fun id' => atM_set hgt hroom id'
    have hnext : seeTo c W C si j draw l (m + 1) s = (askAt c si j sh draw X r.1, r.2 ++ seeL c W C si j sh draw r.1) := by
      show (seeS c W C si j (l.getD m 0) draw (seeTo c W C si j draw l m s).1, (seeTo c W C si j draw l m s).2 ++ seeL c W C si j (l.getD m 0) draw (seeTo c W C si j draw l m s).1) = _
      rw [hr, hsh, hS]
    have hwk : askWk W C sh X.tu = toOf s W C sh := by
      rw [← toOf_eq (s' := r.1) R.ls R.nw, ← hX]
      unfold askWk toOf newSh
      dsimp only
      rw [Nat.mod_eq_of_lt (firstL24_lt r.1 W C sh hC)]
    have hlet : (seeL c W C si j sh draw r.1).map Prod.fst = gTo s W C sh := by
      rw [hLt, hS]
      unfold askL gTo
      rw [show (askAt c si j sh draw X r.1).ls = s.ls from R.ls, hwk]
      split <;> rfl
    rw [hnext]
    refine ⟨fun k h1 h2 => ?_, ?_, R.ls, R.nw, (List.length_set).trans R.ql, ?_⟩
    · have hid : idT si (l.getD k 0) ≠ idT si sh := fun e => by
        have := getD_inj hl h2 (show m < l.length by omega) ((idT_inj e).trans hsh.symm)
        omega
      dsimp only
      rw [hMs, if_neg hid]
      exact R.a k (by omega) h2
    · dsimp only
      rw [List.map_append, hlet, R.v, List.take_add_one, List.flatMap_append]
      congr 1
      have : l[m]? = some sh := by
        rw [← hsh, List.getD_eq_getElem?_getD, List.getElem?_eq_getElem (show m < l.length by omega)]; rfl
      rw [this]
      simp
    · have h1 := setM_len r.1.M (idT si sh) (r.1.now + waitV c.F c.P c.J X.tr draw)
      have h2 := R.Ml
      show (setM 24 r.1.M (idT si sh) (r.1.now + waitV c.F c.P c.J X.tr draw)).length ≤ _
      omega
theorem flat_filter (p : Nat → Bool) (f : Nat → List Int) : ∀ l : List Nat, (l.filter p).flatMap f = l.flatMap (fun x => if p x then f x else [])
  | [] => rfl
  | x :: l => by
    rw [List.filter_cons, List.flatMap_cons, ← flat_filter p f l]
    cases p x <;> simp
def gF (c : Cfg) (t : Tx) (K : Int) (s : Cs) (W C sh : Nat) : List Int := if wantB c t K sh then gTo s W C sh else []
/-- what the first Wake tells of whom -/
theorem wake_first {c : Cfg} {t : Tx} {K N : Int} {W C : Nat} {draw : Int} {s0 s : Cs} (h : OneQ c t K N s0 s) (hg : GoodL s0.ls) (hn : 0 ≤ s0.now ∧ s0.now ≤ 1000000) (hC : 0 < C ∧ C ≤ 3) (hk5 : c.kn ≤ 5) (hn1 : 1 ≤ s.ss.n) :
    ((s.qs.getD 0 q0).dn = true ∧ (wakeTo c W C draw s s.ss.n).2 = []) ∨ ((s.qs.getD 0 q0).dn = false ∧ (wakeTo c W C draw s s.ss.n).2.map Prod.fst = (List.range (c.kn + 1)).flatMap (gF c t K s0 W C)) := by
  have ok := oneQ_see h hg hn
  obtain ⟨n, hnn⟩ : ∃ n, s.ss.n = n + 1 := ⟨s.ss.n - 1, by omega⟩
  have hw := wake_one (W := W) (draw := draw) ok (Nat.le_refl _) hC hk5 h.far n (by omega)
  rw [hnn, hw]
  rcases h.z with ⟨-, h1, -, h2⟩ | ⟨hd, h1, h2⟩
  · refine Or.inl ⟨h2, ?_⟩
    unfold slotTo; rw [if_neg h1]
  · have hq : s.qs.getD 0 q0 = newQ c t K N := by rw [h2, advQ_new]
    refine Or.inr ⟨by rw [hq]; rfl, ?_⟩
    have hse := slot_eq (c := c) (W := W) (C := C) (draw := draw) (k := 0) (j := 0) (r := (s, [])) (by rw [h1]; rfl)
    rw [hse]
    dsimp only
    rw [hq, wants_new c t K N hd]
    have hlen : ((List.range (c.kn + 1)).filter (wantB c t K)).length ≤ 6 := Nat.le_trans (List.length_filter_le _ _) (by rw [List.length_range]; omega)
    have R := seeF (c := c) (W := W) (si := 0) (j := 0) (draw := draw) hC.1 (by rw [h.ql]; omega) (List.Pairwise.filter _ List.nodup_range) h.M hlen ok.nw _ (Nat.le_refl ((List.range (c.kn + 1)).filter (wantB c t K)).length)
    rw [List.nil_append, R.v, List.take_length, flat_filter]
    have e : gTo s W C = gTo s0 W C := by
      funext sh
      unfold gTo
      rw [toOf_eq h.ls h.nw, h.ls]
    rw [e]; rfl
end Go.Proofs.YtblipdmagfiigaaGreat
namespace Go.Proofs.YtblipdmagfiigaaGreat
open Go.RowKit
set_option linter.unusedVariables false
set_option maxRecDepth 20000
def cfgB (c : Cfg) (wr : World) (p : Nat) : Prop := wr.heap[p]? = some (.cells (cfgCells c) 53 (0, 0))
/-- and six numbers of its own -/
def lstA (f : Nat → Int) : Array Value := #[.int .i64 (f 0), .int .i64 (f 1), .int .i64 (f 2), .int .i64 (f 3), .int .i64 (f 4), .int .i64 (f 5)]
/-- the same but for the coordinator -/
def RP (w : World) (c : Cfg) (B0 p lb : Nat) (ty : TypeId) (f : Nat → Int) (col : Nat → Nat) (wr : World) : Prop :=
  cfgB c wr p ∧ col p = 9 ∧ Below w.heap.size w wr ∧ w.heap.size ≤ B0 ∧ w.heap.size ≤ p ∧ wr.heap[lb]? = some (.cells (lstA f) ty (0, 0)) ∧ col lb = 9 ∧ p < lb
section
variable {w wr w' : World} {c : Cfg} {W C : Nat} {i : CoI} {B0 p lb : Nat} {ty : TypeId} {f : Nat → Int} {s s' : Cs}
theorem ext_keep {col col' : Nat → Nat} {b : Nat} {o : Obj} (E : ExtG wr col w' col') (h9 : col b = 9) (hb : wr.heap[b]? = some o) : w'.heap[b]? = some o ∧ col' b = 9 :=
  ⟨(E.1.block b (Array.getElem?_eq_some_iff.1 hb).1 (fun e => e h9)).trans hb, (E.2 b (Array.getElem?_eq_some_iff.1 hb).1).trans h9⟩
theorem ext_below {col col' : Nat → Nat} {iq : Nat → QI} (h : CoX B0 wr col i c W C s iq) (E : ExtG wr col w' col') (hB : w.heap.size ≤ B0) (hb : Below w.heap.size w wr) : Below w.heap.size w w' :=
  hb.trans (E.1.below (fun k hk => Nat.le_trans hB (h.g.lo k hk)) hb.size)
theorem RP.below {col : Nat → Nat} (h : RP w c B0 p lb ty f col wr) (hb : Below wr.heap.size wr w') : RP w c B0 p lb ty f col w' := by
  obtain ⟨h2, h3, h4, h5, h6, h7, h8, h9⟩ := h
  exact ⟨(hb.block p (Array.getElem?_eq_some_iff.1 h2).1).trans h2, h3, h4.trans (hb.mono h4.size), h5, h6, (hb.block lb (Array.getElem?_eq_some_iff.1 h7).1).trans h7, h8, h9⟩
/-- a row of letters of the law's own -/
structure LetR (wr : World) (B1 g : Nat) (cc : Nat) (L : List LT) : Prop where
  o : wr.ownsRow B1 68 2 (.slice (some ⟨g, 0, none⟩) L.length cc) L.length (ltV L)
  g1 : B1 ≤ g
theorem LetR.below {B1 g cc : Nat} {L : List LT} (h : LetR wr B1 g cc L) (hb : Below wr.heap.size wr w') : LetR w' B1 g cc L := ⟨owns_below h.o hb, h.g1⟩
theorem ltV_at : ∀ {L : List LT} {k : Nat} {x : LT}, L[k]? = some x → (ltV L)[k * 2]? = some (.int .i64 x.1) ∧ (ltV L)[k * 2 + 1]? = some (.iface x.2.1 x.2.2)
  | [], k, x, h => by simp at h
  | y :: l, 0, x, h => by simp at h; subst h; exact ⟨rfl, rfl⟩
  | y :: l, k + 1, x, h => by
    have := ltV_at (L := l) (k := k) (by simpa using h)
    rw [show (k + 1) * 2 = k * 2 + 2 by omega]
    exact this
theorem LetR.cells {B1 g cc : Nat} {L : List LT} (h : LetR wr B1 g cc L) {k : Nat} {x : LT} (hx : L[k]? = some x) : wr.cell? ⟨g, k * 2, none⟩ = some (.int .i64 x.1) ∧ wr.cell? ⟨g, k * 2 + 1, none⟩ = some (.iface x.2.1 x.2.2) :=
  ⟨own_cells24 h.o _ (ltV_at hx).1, own_cells24 h.o _ (ltV_at hx).2⟩
end
theorem cfg_cells {c : Cfg} {wr : World} {p : Nat} (h : cfgB c wr p) : wr.cell? ⟨p, 0, none⟩ = some (.slice c.wa c.wn c.wc) ∧ wr.cell? ⟨p, 1, none⟩ = some (.slice c.ka c.kn c.kc) ∧ wr.cell? ⟨p, 2, none⟩ = some (.int .i64 c.W) ∧ wr.cell? ⟨p, 3, none⟩ = some (.int .i64 c.C) ∧ wr.cell? ⟨p, 4, none⟩ = some (.int .i64 c.S) ∧ wr.cell? ⟨p, 5, none⟩ = some (.int .i64 c.B) ∧ wr.cell? ⟨p, 6, none⟩ = some (.int .i64 c.L) ∧ wr.cell? ⟨p, 7, none⟩ = some (.int .i64 c.H) ∧ wr.cell? ⟨p, 8, none⟩ = some (.int .i64 c.F) ∧ wr.cell? ⟨p, 9, none⟩ = some (.int .i64 c.P) ∧ wr.cell? ⟨p, 10, none⟩ = some (.int .i64 c.J) ∧ wr.cell? ⟨p, 11, none⟩ = some (.int .i64 c.N) :=
  ⟨co_cell h rfl, co_cell h rfl, co_cell h rfl, co_cell h rfl, co_cell h rfl, co_cell h rfl, co_cell h rfl, co_cell h rfl, co_cell h rfl, co_cell h rfl, co_cell h rfl, co_cell h rfl⟩
theorem ff_new (S : Nat) (h : 1 ≤ S) : FirstFree (newSl S) 0 := ⟨Nat.zero_le _, fun i h => by omega, fun _ => rfl⟩
end Go.Proofs.YtblipdmagfiigaaGreat
namespace Go.Proofs.YtblipdmagfiigaaGreat
open Go.RowKit
set_option linter.unusedVariables false
set_option maxRecDepth 20000
def qyB (t : Tx) (K N : Int) (wr : World) (p : Nat) : Prop := wr.heap[p]? = some (.cells #[.string t, .int .i64 K, .int .i64 N] 23 (0, 0))
/-- the coordinator, the law's configuration, its query, its six numbers -/
def RQ (w : World) (c : Cfg) (W C : Nat) (i : CoI) (B0 p pq lb : Nat) (ty : TypeId) (t : Tx) (K N : Int) (f : Nat → Int) (s : Cs) (wr : World) : Prop :=
  ∃ col iq, CoX B0 wr col i c W C s iq ∧ RP w c B0 p lb ty f col wr ∧ qyB t K N wr pq ∧ col pq = 9 ∧ pq < lb
section
variable {w wr w' : World} {c : Cfg} {W C : Nat} {i : CoI} {B0 p pq lb : Nat} {ty : TypeId} {t : Tx} {K N : Int} {f : Nat → Int} {s s' : Cs}
theorem RQ.below (h : RQ w c W C i B0 p pq lb ty t K N f s wr) (hb : Below wr.heap.size wr w') : RQ w c W C i B0 p pq lb ty t K N f s w' := by
  obtain ⟨col, iq, h1, h2, h3, h4, h5⟩ := h
  exact ⟨col, iq, h1.below hb, h2.below hb, (hb.block pq (Array.getElem?_eq_some_iff.1 h3).1).trans h3, h4, h5⟩
theorem RQ.step {col col' : Nat → Nat} {iq iq' : Nat → QI} (h1 : CoX B0 wr col i c W C s iq) (h2 : RP w c B0 p lb ty f col wr) (h3 : qyB t K N wr pq) (h4 : col pq = 9) (h5 : pq < lb) (h1' : CoX B0 w' col' i c W C s' iq') (E : ExtG wr col w' col') : RQ w c W C i B0 p pq lb ty t K N f s' w' := by
  obtain ⟨a2, a3, a4, a5, a6, a7, a8, a9⟩ := h2
  exact ⟨col', iq', h1', ⟨(ext_keep E a3 a2).1, (ext_keep E a3 a2).2, ext_below h1 E a5 a4, a5, a6, (ext_keep E a8 a7).1, (ext_keep E a8 a7).2, a9⟩, (ext_keep E h4 h3).1, (ext_keep E h4 h3).2, h5⟩
theorem RQ.set (h : RQ w c W C i B0 p pq lb ty t K N f s wr) (k : Nat) (hk : k < 6) (v : Int) : RQ w c W C i B0 p pq lb ty t K N (fun j => if j = k then v else f j) s (wr.setCell ⟨lb, k, none⟩ (.int .i64 v)) := by
  obtain ⟨col, iq, h1, ⟨h2, h3, h4, h5, h6, h7, h8, h9⟩, g3, g4, g5⟩ := h
  have tt : Turn (fun b => b = lb) wr (wr.setCell ⟨lb, k, none⟩ (.int .i64 v)) := Turn.setCell rfl
  refine ⟨col, iq, h1.own tt (fun b e => by rw [e]; exact h8), ⟨(tt.block p (Array.getElem?_eq_some_iff.1 h2).1 (by omega)).trans h2, h3, h4.trans (tt.below (fun b e => by omega) h4.size), h5, h6, ?_, h8, h9⟩, (tt.block pq (Array.getElem?_eq_some_iff.1 g3).1 (by omega)).trans g3, g4, g5⟩
  rw [Go.heap_setCell_same wr lb k _ _ _ h7]
  match k, hk with
  | 0, _ => rfl
  | 1, _ => rfl
  | 2, _ => rfl
  | 3, _ => rfl
  | 4, _ => rfl
  | 5, _ => rfl
theorem RQ.cell (h : RQ w c W C i B0 p pq lb ty t K N f s wr) (k : Nat) (hk : k < 6) : wr.cell? ⟨lb, k, none⟩ = some (.int .i64 (f k)) ∧ wr.frozen? ⟨lb, k, none⟩ = false := by
  obtain ⟨col, iq, h1, ⟨h2, h3, h4, h5, h6, h7, h8, h9⟩, g3, g4, g5⟩ := h
  refine ⟨co_cell h7 ?_, co_fz h7 k⟩
  match k, hk with
  | 0, _ => rfl
  | 1, _ => rfl
  | 2, _ => rfl
  | 3, _ => rfl
  | 4, _ => rfl
  | 5, _ => rfl
theorem RQ.bel (h : RQ w c W C i B0 p pq lb ty t K N f s wr) : Below w.heap.size w wr := by
  obtain ⟨col, iq, h1, ⟨h2, h3, h4, h5, h6, h7, h8, h9⟩, g3, g4, g5⟩ := h; exact h4
theorem RQ.cfg (h : RQ w c W C i B0 p pq lb ty t K N f s wr) : cfgB c wr p := by
  obtain ⟨col, iq, h1, ⟨h2, h3, h4, h5, h6, h7, h8, h9⟩, g3, g4, g5⟩ := h; exact h2
theorem RQ.qy (h : RQ w c W C i B0 p pq lb ty t K N f s wr) : wr.cell? ⟨pq, 0, none⟩ = some (.string t) ∧ wr.cell? ⟨pq, 1, none⟩ = some (.int .i64 K) ∧ wr.cell? ⟨pq, 2, none⟩ = some (.int .i64 N) := by
  obtain ⟨col, iq, h1, h2, g3, g4, g5⟩ := h
  exact ⟨co_cell g3 rfl, co_cell g3 rfl, co_cell g3 rfl⟩
end
/-- from above: the first live copy at jn or behind it, or the first copy -/
def DownI (p : Nat → Bool) (C jn x : Nat) : Prop := x < C ∧ ((jn ≤ x ∧ p x = true ∧ ∀ y, jn ≤ y → y < x → p y = false) ∨ (x = 0 ∧ ∀ y, jn ≤ y → y < C → p y = false))
theorem downI_0 {p : Nat → Bool} {C : Nat} (h : 0 < C) : DownI p C C 0 := ⟨h, Or.inr ⟨rfl, fun y h1 h2 => by omega⟩⟩
theorem DownI.hit {p : Nat → Bool} {C j x : Nat} (h : DownI p C (j + 1) x) (hj : j < C) (hp : p j = true) : DownI p C j j := ⟨hj, Or.inl ⟨Nat.le_refl _, hp, fun y h1 h2 => by omega⟩⟩
theorem DownI.miss {p : Nat → Bool} {C j x : Nat} (h : DownI p C (j + 1) x) (hp : p j = false) : DownI p C j x := by
  refine ⟨h.1, ?_⟩
  rcases h.2 with ⟨a1, a2, a3⟩ | ⟨a1, a2⟩
  · exact Or.inl ⟨by omega, a2, fun y h1 h2 => by
      by_cases e : y = j
      · rw [e]; exact hp
      · exact a3 y (by omega) h2⟩
  · exact Or.inr ⟨a1, fun y h1 h2 => by
      by_cases e : y = j
      · rw [e]; exact hp
      · exact a2 y (by omega) h2⟩
theorem flF_first {p : Nat → Bool} {x : Nat} (hp : p x = true) (hb : ∀ y, y < x → p y = false) : ∀ n, x < n → flF p n = some x := by
  have h0 : ∀ m, m ≤ x → flF p m = none := by
    intro m
    induction m with
    | zero => exact fun _ => rfl
    | succ m ih => exact fun h => flF_miss (ih (by omega)) (hb m (by omega))
  exact fun n hn => flF_hit (h0 x (Nat.le_refl _)) hp n hn
theorem DownI.done {p : Nat → Bool} {C x : Nat} (h : DownI p C 0 x) : (flF p C).getD 0 = x := by
  rcases h.2 with ⟨a1, a2, a3⟩ | ⟨a1, a2⟩
  · rw [flF_first a2 (fun y hy => a3 y (Nat.zero_le _) hy) C h.1]; rfl
  · have : flF p C = none := by
      have h0 : ∀ m, m ≤ C → flF p m = none := by
        intro m
        induction m with
        | zero => exact fun _ => rfl
        | succ m ih => exact fun h => flF_miss (ih (by omega)) (a2 m (Nat.zero_le _) (by omega))
      exact h0 C (Nat.le_refl _)
    rw [this, a1]; rfl
theorem flat_succ (g : Nat → List Int) (n : Nat) : (List.range (n + 1)).flatMap g = (List.range n).flatMap g ++ g n := by
  rw [List.range_succ, List.flatMap_append]; simp
/-- what stands at its place in the whole -/
theorem flat_at (g : Nat → List Int) {n m : Nat} {v : Int} (h : n < m) (hv : g n = [v]) : ((List.range m).flatMap g)[((List.range n).flatMap g).length]? = some v := by
  have : ∃ r, (List.range m).flatMap g = ((List.range n).flatMap g ++ [v]) ++ r := by
    obtain ⟨d, rfl⟩ : ∃ d, m = n + 1 + d := ⟨m - (n + 1), by omega⟩
    induction d with
    | zero => exact ⟨[], by rw [Nat.add_zero, flat_succ, hv, List.append_nil]⟩
    | succ d ih =>
      obtain ⟨r, hr⟩ := ih (by omega)
      exact ⟨r ++ g (n + 1 + d), by rw [show n + 1 + (d + 1) = n + 1 + d + 1 by omega, flat_succ, hr, List.append_assoc]⟩
  obtain ⟨r, hr⟩ := this
  rw [hr, List.append_assoc, List.getElem?_append_right (Nat.le_refl _), Nat.sub_self]; rfl
end Go.Proofs.YtblipdmagfiigaaGreat
namespace Go.Proofs.YtblipdmagfiigaaGreat
open Go.RowKit
set_option linter.unusedVariables false
set_option maxRecDepth 20000
theorem adv_its {c : Cfg} {t : Tx} {K N : Int} {s : Cs} (hq : s.qs = []) : ((advS c 0 0 (subC c t K N 0 s)).qs.getD 0 q0).its = [] := by
  have hg : (subC c t K N 0 s).qs.getD 0 q0 = newQ c t K N := by unfold subC; rw [hq]; rfl
  unfold advS
  rw [hg, advQ_new]
  cases advD (newQ c t K N) with
  | true =>
    rw [if_pos rfl]
    unfold finC subC
    dsimp only
    rw [hq]; rfl
  | false =>
    rw [if_neg (by decide)]
    unfold subC
    dsimp only
    rw [hq]; rfl
theorem seeTo_eq {c : Cfg} {W C si j : Nat} {draw : Int} {s : Cs} {l : List Nat} (hj : j < s.qs.length) (k : Nat) :
    ∀ m, (seeTo c W C si j draw l m s).1.qs.length = s.qs.length ∧ ((seeTo c W C si j draw l m s).1.qs.getD k q0).its = (s.qs.getD k q0).its ∧ ((seeTo c W C si j draw l m s).1.qs.getD k q0).dn = (s.qs.getD k q0).dn ∧ (seeTo c W C si j draw l m s).1.now = s.now
  | 0 => ⟨rfl, rfl, rfl, rfl⟩
  | m + 1 => by
    obtain ⟨h1, h2, h3, h4⟩ := seeTo_eq (c := c) (W := W) (C := C) (si := si) (draw := draw) (l := l) hj k m
    have hj' : j < (seeTo c W C si j draw l m s).1.qs.length := by rw [h1]; exact hj
    have he := see_eq (c := c) (W := W) (C := C) (si := si) (sh := l.getD m 0) (draw := draw) hj' k
    exact ⟨see_len.trans h1, he.2.2.1.trans h2, he.2.2.2.2.2.2.1.trans h3, see_rest.2.2.trans h4⟩
theorem wake_keep {c : Cfg} {t : Tx} {K N : Int} {W C : Nat} {draw : Int} {s0 s : Cs} (h : OneQ c t K N s0 s) (hg : GoodL s0.ls) (hn : 0 ≤ s0.now ∧ s0.now ≤ 1000000) (hC : 0 < C ∧ C ≤ 3) (hk5 : c.kn ≤ 5) (hn1 : 1 ≤ s.ss.n) :
    (wakeTo c W C draw s s.ss.n).1.qs.length = 1 ∧ ((wakeTo c W C draw s s.ss.n).1.qs.getD 0 q0).its = (s.qs.getD 0 q0).its ∧ ((wakeTo c W C draw s s.ss.n).1.qs.getD 0 q0).dn = (s.qs.getD 0 q0).dn ∧ (wakeTo c W C draw s s.ss.n).1.now = s.now := by
  have ok := oneQ_see h hg hn
  obtain ⟨n, hnn⟩ : ∃ n, s.ss.n = n + 1 := ⟨s.ss.n - 1, by omega⟩
  have hw := wake_one (W := W) (draw := draw) ok (Nat.le_refl _) hC hk5 h.far n (by omega)
  rw [hnn, hw]
  by_cases h0 : 0 < s.ss.L 0
  · obtain ⟨j, hj, hL, -⟩ := ok.a 0 (by omega) h0
    rw [slot_eq (r := (s, [])) hL]
    have h1 := seeTo_eq (c := c) (W := W) (C := C) (si := 0) (draw := draw) (l := wantsOf (s.qs.getD j q0)) hj 0 (wantsOf (s.qs.getD j q0)).length
    exact ⟨h1.1.trans h.ql, h1.2⟩
  · have e : slotTo c W C draw 0 (s, []) = (s, []) := by unfold slotTo; rw [if_neg h0]
    rw [e]; exact ⟨h.ql, rfl, rfl, rfl⟩
/-- a copy lives: as f says -/
theorem HeaI.liveP {W S C sh : Nat} {T : Int} {f : Nat → Int} {s : Cs} (h : HeaI W S T f s) (hC : C ≤ W) (hW : 0 < W) (j : Nat) (hj : j < C) : ∃ z : Nat, 1 ≤ z ∧ z ≤ W ∧ (Pl.cop W C sh).getD j 0 = (z : Int) ∧ (f z = -1 ∨ (0 ≤ f z ∧ f z ≤ s.now)) ∧ (Go.Proofs.YtblipdmagfiigaaGreat.liveP s W C sh j = true ↔ 0 ≤ f z ∧ s.now ≤ f z + T) ∧ (epochS s.ls ((Pl.cop W C sh).getD j 0) = 0 ↔ f z < 0) := by
  have hb := cop_bd W C sh j hj hW
  obtain ⟨z, hz⟩ : ∃ z : Nat, (Pl.cop W C sh).getD j 0 = (z : Int) := ⟨((Pl.cop W C sh).getD j 0).toNat, by omega⟩
  rw [hz] at hb
  have hl := h.live z (by omega) (by omega)
  refine ⟨z, by omega, by omega, hz, ?_, ?_, ?_⟩
  · rcases h.w z (by omega) (by omega) with e | e
    · exact Or.inl e.1
    · exact Or.inr ⟨e.1, e.2.1⟩
  · unfold Go.Proofs.YtblipdmagfiigaaGreat.liveP
    rw [hz, decide_eq_true_iff]
    exact hl.1
  · rw [hz]; exact hl.2
theorem RQ.make {w wr : World} {c : Cfg} {W C : Nat} {i : CoI} {B0 p pq lb : Nat} {ty : TypeId} {t : Tx} {K N : Int} {s : Cs} {col : Nat → Nat} {iq : Nat → QI} (h1 : CoX B0 wr col i c W C s iq) (h2 : cfgB c wr p) (h3 : col p = 9) (h4 : Below w.heap.size w wr) (h5 : w.heap.size ≤ B0) (h6 : w.heap.size ≤ p) (g3 : qyB t K N wr pq) (g4 : col pq = 9) (hlb : wr.heap.size = lb) :
    RQ w c W C i B0 p pq lb ty t K N (fun _ => 0) s (wr.alloc (.cells (lstA fun _ => 0) ty)) := by
  have hb := below_one wr (.cells (lstA fun _ => 0) ty)
  have hp := (Array.getElem?_eq_some_iff.1 h2).1
  have hq := (Array.getElem?_eq_some_iff.1 g3).1
  exact ⟨col, iq, h1.below hb, ⟨(hb.block p hp).trans h2, h3, h4.trans (hb.mono h4.size), h5, h6, by rw [← hlb]; exact heap_alloc_new wr _, h1.g.nw lb (by omega), by omega⟩, (hb.block pq hq).trans g3, g4, by omega⟩
end Go.Proofs.YtblipdmagfiigaaGreat
namespace Go.Proofs.YtblipdmagfiigaaGreat
open Go.RowKit
set_option linter.unusedVariables false
set_option maxRecDepth 20000
theorem results_cell2G {fn : Func} {p q : Tmp} {ty : TypeId} (h : fn.results = #[.cell p ty, .tmp q]) (tmps : Array Value) (w : World) (g : Nat) (V v : Value)
    (hp : tmps.getD p undef = .pointer (some ⟨g, 0, none⟩)) (hv : tmps.getD q undef = v) (hl : (loadVar ty ⟨g, 0, none⟩).run Tryz.prog w = .ok V w) :
    (results fn tmps).run Tryz.prog w = .ok (.tuple #[V, v]) w := by
  have hp' : tmps[p]?.getD undef = .pointer (some ⟨g, 0, none⟩) := by simpa using hp
  have hv' : tmps[q]?.getD undef = v := by simpa using hv
  simp [results, h, hp', hv', asAddr, hl]
def toldC (id : Int) (q : Qy) (a : Option Addr) (c : Nat) : Array Value := #[.int .i64 id, .string q.t, .int .i64 q.K, .int .i64 q.N, .slice a q.its.length c, .bool q.dn, .bool q.ca]
def TolG (w : World) (id : Int) (q : Qy) (e : Ending) (w' : World) : Prop := ∃ a c, e = .returned (.tuple #[.agg (toldC id q a c), .bool true]) ∧ w'.ownsRow w.heap.size 71 2 (.slice a q.its.length c) q.its.length (keysV q.its) ∧ Below w.heap.size w w'
section
variable {B0 : Nat} {w w' : World} {col col' : Nat → Nat} {i : CoI} {c : Cfg} {W C : Nat} {s : Cs} {iq : Nat → QI} {F : Nat → Prop}
set_option maxRecDepth 100000 in
set_option maxHeartbeats 1600000 in
theorem gTold_any (j : Nat) (w : World) (h : CoX B0 w col i c W C s iq) (hj : j < s.qs.length) (hn : s.qs.length ≤ 1000000) (hl : (s.qs.getD j q0).its.length ≤ 1000) : Calls Tryz.prog 10 #[.pointer (some ⟨i.x, 0, none⟩), .int .i64 ((j + 1 : Nat) : Int)] w (TolG w ((j + 1 : Nat) : Int) (s.qs.getD j q0)) := by
  obtain ⟨id, hid⟩ : ∃ z : Int, ((j + 1 : Nat) : Int) = z := ⟨_, rfl⟩
  obtain ⟨q, hq⟩ : ∃ q, s.qs.getD j q0 = q := ⟨_, rfl⟩
  obtain ⟨x, hx⟩ : ∃ x, iq j = x := ⟨_, rfl⟩
  have Q := Lib.hid (show QAtG w col B0 (10 + 4 * j) id q x from by rw [← hq, ← hx, ← hid]; exact h.q j hj)
  have FQ := Lib.hid (show qmG iq s.qs.length id = some (.pointer (some ⟨x.qb, 0, none⟩)) from by rw [← hid, ← hx]; exact qmG_at iq _ j hj)
  have wf : wfI id := by unfold wfI; exact wf64 (by omega)
  have C0 := Lib.hid h
  obtain ⟨n, hnn⟩ : ∃ n, q.its.length = n := ⟨_, rfl⟩
  have HN := Lib.hid (show q.its.length = n ∧ n ≤ 1000 from ⟨hnn, by rw [← hnn, ← hq]; exact hl⟩)
  rw [hq, hid]
  clear h hj hn hl hq hx hid hnn
  obtain ⟨O, hO⟩ : ∃ O, (Obj.cells #[.int .i64 0, .string ⟨#[]⟩, .int .i64 0, .int .i64 0, .slice none 0 0, .bool false, .bool false] 39 (0, 0)) = O := ⟨_, rfl⟩
  have B1 := Lib.hid (below_one w O)
  obtain ⟨p, hp⟩ : ∃ p, w.heap.size = p := ⟨_, rfl⟩
  have KP := Lib.hid (show (w.alloc O).heap[p]? = some O from by rw [← hp]; exact heap_alloc_new w _)
  have HP := Lib.hid hp
  subst hO
  go_enter Tryz.func10, Tryz.ntmps10
  go_upto_region 3 with fail
  generalize w.alloc (Obj.cells #[.int .i64 0, .string ⟨#[]⟩, .int .i64 0, .int .i64 0, .slice none 0 0, .bool false, .bool false] 39 (0, 0)) = w1 at *
  have C1 := Lib.hid (C0.out.below B1.out)
  have Q1 := Lib.hid (Q.out.below B1.out)
  have x17 : w1.cell? ⟨i.x, 17, none⟩ = some (.map (some i.bq)) := co_cell C1.out.g.box rfl
  have MQ := Lib.hid C1.out.g.Q
  have y0 : w1.cell? ⟨x.qb, 0, none⟩ = some (.int .i64 id) := co_cell Q1.out.b rfl
  have y1 : w1.cell? ⟨x.qb, 1, none⟩ = some (.string q.t) := co_cell Q1.out.b rfl
  have y2 : w1.cell? ⟨x.qb, 2, none⟩ = some (.int .i64 q.K) := co_cell Q1.out.b rfl
  have y3 : w1.cell? ⟨x.qb, 3, none⟩ = some (.int .i64 q.N) := co_cell Q1.out.b rfl
  have y4 : w1.cell? ⟨x.qb, 4, none⟩ = some (.slice x.ia n x.ic) := by rw [← HN.out.1]; exact co_cell Q1.out.b rfl
  have y5 : w1.cell? ⟨x.qb, 5, none⟩ = some (.bool q.dn) := co_cell Q1.out.b rfl
  have y6 : w1.cell? ⟨x.qb, 6, none⟩ = some (.bool q.ca) := co_cell Q1.out.b rfl
  clear hp C0 Q
  obtain ⟨p2, hp2⟩ : ∃ p, w1.heap.size = p := ⟨_, rfl⟩
  have HP2 := Lib.hid hp2
  have B2 := Lib.hid (below_one w1 (Obj.cells #[.int .i64 id, .string q.t, .int .i64 q.K, .int .i64 q.N, .slice x.ia n x.ic, .bool q.dn, .bool q.ca] 39 (0, 0)))
  have KP2 := Lib.hid (show (w1.alloc (Obj.cells #[.int .i64 id, .string q.t, .int .i64 q.K, .int .i64 q.N, .slice x.ia n x.ic, .bool q.dn, .bool q.ca] 39 (0, 0))).heap[p2]? = some (.cells #[.int .i64 id, .string q.t, .int .i64 q.K, .int .i64 q.N, .slice x.ia n x.ic, .bool q.dn, .bool q.ca] 39 (0, 0)) from by rw [← hp2]; exact heap_alloc_new w1 _)
  go_upto_region 7 with (first | (at_lookup; refine wpList_look_mv mapTq rfl (.tmp 16) (.tmp 17) rfl rfl MQ.out id rfl wf (.pointer (some ⟨x.qb, 0, none⟩)) true (by rw [FQ.out]; rfl) (by rw [FQ.out]; rfl) ?_) | fail)
  generalize w1.alloc (Obj.cells #[.int .i64 id, .string q.t, .int .i64 q.K, .int .i64 q.N, .slice x.ia n x.ic, .bool q.dn, .bool q.ca] 39 (0, 0)) = w2 at *
  have Q2 := Q1.out.below B2.out
  have CC := Lib.hid (cloneI_any x.ia n x.ic q.its w2 (by have h := HoldsK.own Q2.o; rw [HN.out.1] at h; exact h) (by have h := (owns_none Q2.o).1; rw [HN.out.1] at h; exact h) (by have := HN.out.2; omega))
  unfold RetI at CC
  rw [HN.out.1] at CC
  have t4 : w2.cell? ⟨p2, 4, none⟩ = some (.slice x.ia n x.ic) := co_cell KP2.out rfl
  clear hp2 Q2 x17 y0 y1 y2 y3 y4 y5 y6
  go_wp2_with fail
  refine CC.out.mono ?_
  rintro e w3 ⟨a3, c3, rfl, ho3, hb3⟩
  have KQ3 := Lib.hid ((hb3.block p2 (Array.getElem?_eq_some_iff.1 KP2.out).1).trans KP2.out)
  have KP3 := Lib.hid (((B2.out.trans (hb3.mono B2.out.size)).block p (Array.getElem?_eq_some_iff.1 KP.out).1).trans KP.out)
  have O3 := Lib.hid ho3
  have B3 := Lib.hid ((B1.out.trans (B2.out.mono B1.out.size)).trans (hb3.mono (B1.out.trans (B2.out.mono B1.out.size)).size))
  have s4 : w3.cell? ⟨p2, 4, none⟩ = some (.slice x.ia n x.ic) := co_cell KQ3.out rfl
  have z4 := co_fz KQ3.out 4
  have LT := Lib.hid (show p < w2.heap.size ∧ p2 < w2.heap.size ∧ p ≠ p2 from ⟨(Array.getElem?_eq_some_iff.1 (((B2.out).block p (Array.getElem?_eq_some_iff.1 KP.out).1).trans KP.out)).1, (Array.getElem?_eq_some_iff.1 KP2.out).1, by have := (Array.getElem?_eq_some_iff.1 KP.out).1; have := HP2.out; omega⟩)
  clear ho3 hb3 CC t4 KP KP2 B2
  go_upto_region 8 with fail
  have KQ4 := Lib.hid (show (w3.setCell ⟨p2, 4, none⟩ (.slice a3 n c3)).heap[p2]? = some (.cells #[.int .i64 id, .string q.t, .int .i64 q.K, .int .i64 q.N, .slice a3 n c3, .bool q.dn, .bool q.ca] 39 (0, 0)) from by rw [Go.heap_setCell_same w3 p2 4 _ _ _ KQ3.out]; rfl)
  have KP4 := Lib.hid ((mheap_far (w := w3) (o := 4) (v := .slice a3 n c3) LT.out.2.2).trans KP3.out)
  have HZ4 := Lib.hid (show Below w.heap.size w (w3.setCell ⟨p2, 4, none⟩ (.slice a3 n c3)) from B3.out.trans ((Turn.setCell (F := fun k => k = p2) rfl).below (fun k e => by have := HP2.out; have := B1.out.size; omega) B3.out.size))
  have O4 := Lib.hid (show (w3.setCell ⟨p2, 4, none⟩ (.slice a3 n c3)).ownsRow w2.heap.size 71 2 (.slice a3 n c3) n (keysV q.its) from mowns_block0 O3.out (fun g hg => mheap_far (by have := (O3.out.lt g (by rw [hg]; rfl)).1; have := LT.out; omega)))
  clear s4 z4 KQ3 KP3 O3 B3
  generalize w3.setCell ⟨p2, 4, none⟩ (.slice a3 n c3) = w4 at *
  have t0 : w4.cell? ⟨p2, 0, none⟩ = some (.int .i64 id) := co_cell KQ4.out rfl
  have t1 : w4.cell? ⟨p2, 1, none⟩ = some (.string q.t) := co_cell KQ4.out rfl
  have t2 : w4.cell? ⟨p2, 2, none⟩ = some (.int .i64 q.K) := co_cell KQ4.out rfl
  have t3 : w4.cell? ⟨p2, 3, none⟩ = some (.int .i64 q.N) := co_cell KQ4.out rfl
  have t4 : w4.cell? ⟨p2, 4, none⟩ = some (.slice a3 n c3) := co_cell KQ4.out rfl
  have t5 : w4.cell? ⟨p2, 5, none⟩ = some (.bool q.dn) := co_cell KQ4.out rfl
  have t6 : w4.cell? ⟨p2, 6, none⟩ = some (.bool q.ca) := co_cell KQ4.out rfl
  have HI := Lib.hid (show (Tryz.prog.info? 39).map (·.size) = some (#[.int .i64 id, .string q.t, .int .i64 q.K, .int .i64 q.N, .slice a3 n c3, .bool q.dn, .bool q.ca] : Array Value).size from by kernel_rfl)
  have HW := Lib.hid (setRow_heap w4 p _ #[.int .i64 id, .string q.t, .int .i64 q.K, .int .i64 q.N, .slice a3 n c3, .bool q.dn, .bool q.ca] _ _ KP4.out)
  have TS := Lib.hid (show Turn (fun k => k = p) w4 (w4.setRow p #[.int .i64 id, .string q.t, .int .i64 q.K, .int .i64 q.N, .slice a3 n c3, .bool q.dn, .bool q.ca]) from ⟨rfl, rfl, rfl, by simp [World.setRow], fun k _ hk => setRow_other w4 p k _ hk⟩)
  have H1 := Lib.hid (show (#[.int .i64 id, .string q.t, .int .i64 q.K, .int .i64 q.N, .slice a3 n c3, .bool q.dn, .bool q.ca] : Array Value).all (·.oneCell') = true from by simp [Value.oneCell'])
  go_wp2_with (first | (refine wpList_store_row rfl 39 (.tmp 4) (.tmp 32) rfl p #[.int .i64 id, .string q.t, .int .i64 q.K, .int .i64 q.N, .slice a3 n c3, .bool q.dn, .bool q.ca] rfl rfl 39 #[.int .i64 0, .string ⟨#[]⟩, .int .i64 0, .int .i64 0, .slice none 0 0, .bool false, .bool false] KP4.out HI.out rfl H1.out ?_) | fail)
  refine bodyPost_ret (results_cell2G rfl _ _ p _ _ rfl rfl (run_loadVar_row _ p 39 39 #[.int .i64 id, .string q.t, .int .i64 q.K, .int .i64 q.N, .slice a3 n c3, .bool q.dn, .bool q.ca] (0, 0) _ HW.out Tryz.underlying39 rfl HI.out)) rfl ?_
  have hB : Below w.heap.size w (w4.setRow p #[.int .i64 id, .string q.t, .int .i64 q.K, .int .i64 q.N, .slice a3 n c3, .bool q.dn, .bool q.ca]) := HZ4.out.trans (TS.out.below (fun k e => by have := HP.out; omega) HZ4.out.size)
  refine ⟨a3, c3, by unfold toldC; rw [HN.out.1]; rfl, ?_, hB⟩
  rw [HN.out.1]
  exact base_less24 (mowns_block0 O4.out (fun g hg => TS.out.block g (O4.out.lt g (by rw [hg]; rfl)).2 (by have := (O4.out.lt g (by rw [hg]; rfl)).1; have := LT.out; omega))) (by have := B1.out.size; have := LT.out; have := HP2.out; omega)
end
end Go.Proofs.YtblipdmagfiigaaGreat
namespace Go.Proofs.YtblipdmagfiigaaGreat
open Go.RowKit
set_option linter.unusedVariables false
set_option maxRecDepth 20000
theorem fr_carry {w1 a b : World} {p q : Nat} {u v : Value} (h : Below w1.heap.size w1 a ∧ a.cell? ⟨p, 1, none⟩ = some u ∧ a.cell? ⟨q, 0, none⟩ = some v) (hb : Below a.heap.size a b) : Below w1.heap.size w1 b ∧ b.cell? ⟨p, 1, none⟩ = some u ∧ b.cell? ⟨q, 0, none⟩ = some v :=
  ⟨h.1.trans (hb.mono h.1.size), (hb.cell (p := ⟨p, 1, none⟩) (lt_of_cell h.2.1)).trans h.2.1, (hb.cell (p := ⟨q, 0, none⟩) (lt_of_cell h.2.2)).trans h.2.2⟩
section
variable {w wr : World} {c : Cfg} {W C : Nat} {i : CoI} {B0 p pq lb : Nat} {ty : TypeId} {t : Tx} {K N : Int} {f : Nat → Int} {s : Cs}
theorem RQ.tick (h : RQ w c W C i B0 p pq lb ty t K N f s wr) (hn : s.now < 1000000) :
    Calls Tryz.prog 11 #[.pointer (some ⟨i.x, 0, none⟩)] wr fun e w' => e = .returned (.tuple #[]) ∧ RQ w c W C i B0 p pq lb ty t K N f { s with now := s.now + 1 } w' := by
  obtain ⟨col, iq, h1, h2, h3, h4, h5⟩ := h
  exact (hTick_any wr h1 hn).mono fun e w' r => ⟨r.1, RQ.step h1 h2 h3 h4 h5 r.2.1 r.2.2⟩
theorem RQ.hear (h : RQ w c W C i B0 p pq lb ty t K N f s wr) (hg : GoodL s.ls) (k l : Int) :
    Calls Tryz.prog 14 #[.pointer (some ⟨i.x, 0, none⟩), .iface 62 (.agg #[.int .i64 k, .int .i64 l])] wr fun e w' => (∃ a n cc, e = .returned (.slice a n cc)) ∧ RQ w c W C i B0 p pq lb ty t K N f (helS s k l) w' := by
  obtain ⟨col, iq, h1, h2, h3, h4, h5⟩ := h
  refine (hTake_any k l wr h1 hg).mono fun e w' r => ?_
  obtain ⟨col2, iq2, a, cc, rfl, r1, r2, r3, r4⟩ := r
  exact ⟨⟨a, _, cc, rfl⟩, RQ.step h1 h2 h3 h4 h5 r1 r2⟩
theorem RQ.time (h : RQ w c W C i B0 p pq lb ty t K N f s wr) :
    Calls Tryz.prog 13 #[.pointer (some ⟨i.x, 0, none⟩)] wr fun e w' => e = .returned (.int .i64 s.now) ∧ wr = w' := by
  obtain ⟨col, iq, h1, h2, h3, h4, h5⟩ := h
  exact hNow_any wr h1
theorem RQ.submit (h : RQ w c W C i B0 p pq lb ty t K N f s wr) {S : Nat} (hS : 1 ≤ S ∧ S ≤ 4) (hq : s.qs = []) (hss : s.ss = newSl S) (hm : mayP t K N) (ht : t.size ≤ 9223372036854775807) (hW : W ≤ 5) :
    Calls Tryz.prog 8 #[.pointer (some ⟨i.x, 0, none⟩), .agg #[.string t, .int .i64 K, .int .i64 N]] wr fun e w' => (∃ a n cc, e = .returned (.tuple #[.int .i64 3, .int .i64 1, .slice a n cc])) ∧ RQ w c W C i B0 p pq lb ty t K N f (advS c 0 0 (subC c t K N 0 s)) w' := by
  obtain ⟨col, iq, h1, h2, h3, h4, h5⟩ := h
  have hc := gSubmit_yes t K N 0 wr h1 (by rw [hss]; exact newSl_good hS.1 hS.2) (by rw [hss, hq]; rfl) (by rw [hss]; exact ff_new S hS.1) (by rw [hss]; exact hS.1) hm ht (by rw [hq]; decide) hW
  rw [show s.qs.length = 0 by rw [hq]; rfl] at hc
  refine hc.mono fun e w' r => ?_
  obtain ⟨col2, iq2, a, cc, rfl, r1, r2, r3, r4⟩ := r
  exact ⟨⟨a, _, cc, rfl⟩, RQ.step h1 h2 h3 h4 h5 r1 r2⟩
theorem RQ.wake (h : RQ w c W C i B0 p pq lb ty t K N f s wr) (draw : Int) (ok : SeeOk c s 3) (hC : 0 < C ∧ C ≤ 3) (hS : c.S = (s.ss.n : Int)) (hS4 : s.ss.n ≤ 4) :
    Calls Tryz.prog 15 #[.pointer (some ⟨i.x, 0, none⟩), .int .i64 draw] wr fun e w' => ∃ a cc, e = .returned (.slice a (wakeTo c W C draw s s.ss.n).2.length cc) ∧ RQ w c W C i B0 p pq lb ty t K N f (wakeTo c W C draw s s.ss.n).1 w' ∧ (0 < (wakeTo c W C draw s s.ss.n).2.length → ∃ g, a = some ⟨g, 0, none⟩ ∧ LetR w' wr.heap.size g cc (wakeTo c W C draw s s.ss.n).2) := by
  obtain ⟨col, iq, h1, h2, h3, h4, h5⟩ := h
  refine (gWake_any 3 draw wr h1 ok (by omega) (by omega) hC hS hS4).mono fun e w' r => ?_
  obtain ⟨col2, iq2, a, cc, rfl, r1, r2, r3, r4⟩ := r
  refine ⟨a, cc, rfl, RQ.step h1 h2 h3 h4 h5 r1 r2, fun h0 => ?_⟩
  obtain ⟨g, cap, e1, e2, -⟩ := r3.form h0
  injection e1 with e1
  subst e1
  exact ⟨g, rfl, r3, e2⟩
theorem RQ.told (h : RQ w c W C i B0 p pq lb ty t K N f s wr) (hq : s.qs.length = 1) (hi : (s.qs.getD 0 q0).its = []) :
    Calls Tryz.prog 10 #[.pointer (some ⟨i.x, 0, none⟩), .int .i64 1] wr fun e w' => (∃ a cc, e = .returned (.tuple #[.agg (toldC 1 (s.qs.getD 0 q0) a cc), .bool true])) ∧ RQ w c W C i B0 p pq lb ty t K N f s w' ∧ Below wr.heap.size wr w' := by
  obtain ⟨col, iq, h1, h2, h3, h4, h5⟩ := id h
  refine (gTold_any 0 wr h1 (by omega) (by omega) (by rw [hi]; decide)).mono fun e w' r => ?_
  obtain ⟨a, cc, rfl, r1, r2⟩ := r
  exact ⟨⟨a, cc, rfl⟩, h.below r2, r2⟩
end
end Go.Proofs.YtblipdmagfiigaaGreat
namespace Go.Proofs.YtblipdmagfiigaaGreat
open Go.RowKit
set_option linter.unusedVariables false
set_option maxRecDepth 20000
variable {B0 : Nat} {col : Nat → Nat} {x ca cc cw c2 bl bs bo ba bt bq n : Nat} {ls : Lt} {ss : Sl} {M : List TM} {f : Int → Option Value}
theorem lst_carry {w1 a b : World} {x q : Nat} (h : Below w1.heap.size w1 a ∧ a.cell? ⟨x, 1, none⟩ = some (.slice none 0 0) ∧ a.cell? ⟨q, 0, none⟩ = some (.string coA) ∧ a.cell? ⟨q, 1, none⟩ = some (.int .i64 1)) (hb : Below a.heap.size a b) : Below w1.heap.size w1 b ∧ b.cell? ⟨x, 1, none⟩ = some (.slice none 0 0) ∧ b.cell? ⟨q, 0, none⟩ = some (.string coA) ∧ b.cell? ⟨q, 1, none⟩ = some (.int .i64 1) :=
  ⟨h.1.trans (hb.mono h.1.size), (hb.cell (p := ⟨x, 1, none⟩) (lt_of_cell h.2.1)).trans h.2.1, (hb.cell (p := ⟨q, 0, none⟩) (lt_of_cell h.2.2.1)).trans h.2.2.1, (hb.cell (p := ⟨q, 1, none⟩) (lt_of_cell h.2.2.2)).trans h.2.2.2⟩
def Leasts24 (w : World) (e : Ending) (w' : World) : Prop := ∃ a c, e = .returned (.slice a 1 c) ∧ HoldsI .i64 w' a 1 [0] ∧ Below w.heap.size w w'
set_option maxRecDepth 100000 in
set_option maxHeartbeats 1600000 in
theorem leasts24 (w : World) (h : CoS B0 w col x ca cc cw c2 bl bs bo ba bt bq n ls ss M f) : Calls Tryz.prog 33 #[.pointer (some ⟨x, 0, none⟩), .agg #[.string coA, .int .i64 1, .int .i64 2]] w (Leasts24 w) := by
  obtain ⟨i0, hi, hz0, hz1, hz2⟩ := info_parts num_info
  have hb1 := below_one w (.cells #[.string coA, .int .i64 1, .int .i64 2] 23)
  obtain ⟨q, hq⟩ : ∃ q, w.heap.size = q := ⟨_, rfl⟩
  have KQ := Lib.hid (show (w.alloc (.cells #[.string coA, .int .i64 1, .int .i64 2] 23)).heap[q]? = some (.cells #[.string coA, .int .i64 1, .int .i64 2] 23 (0, 0)) from by rw [← hq]; exact heap_alloc_new w _)
  have C1 := Lib.hid (h.below hb1)
  have B1 := Lib.hid hb1
  have CL := Lib.hid (fun w' => (show Calls Tryz.prog 26 #[.string coA] w' fun e w'' => e = .returned (.int .i64 1) ∧ Below w'.heap.size w' w'' from (show lenS coA = 1 by decide +kernel) ▸ len_any coA w' (by decide)))
  have CK := Lib.hid (fun w' => (show Calls Tryz.prog 25 #[.slice none 0 0, .int .i64 0, .int .i64 1] w' fun e w'' => e = .returned (.int .i64 0) ∧ w' = w'' from least_lit none 0 0 [] 0 1 0 w' ⟨rfl, fun h => (Nat.lt_irrefl 0 h).elim⟩ (by omega) (fun k hk => by cases hk) (by omega) (by decide) (by decide +kernel)))
  clear h hb1
  go_enter Tryz.func33, Tryz.ntmps33
  go_upto_region 2 with fail
  generalize w.alloc (.cells #[.string coA, .int .i64 1, .int .i64 2] 23) = w1 at *
  have x12 : w1.cell? ⟨x, 12, none⟩ = some (.slice (some ⟨ca, 0, none⟩) 1 cc) := co_cell C1.out.box rfl
  go_wp2_with fail
  go_loopw [5, 13] (fun ov iv wr => (iv = .int .i64 0 ∧ ov = .slice none 0 0 ∧ wr = w1) ∨ (iv = .int .i64 1 ∧ ∃ a c, ov = .slice a 1 c ∧ Hid (HoldsI .i64 wr a 1 [0]) ∧ Hid (Below w.heap.size w wr))) (fun _ iv _ => 1 - (intOf iv).toNat)
  case atStart => exact Or.inl ⟨rfl, rfl, rfl⟩
  case round =>
    rcases hrel with ⟨rfl, rfl, hw⟩ | ⟨rfl, a, c, rfl, hA, hB⟩
    · rw [← hw] at C1 B1 KQ
      have S0 := Lib.hid (show Below wr.heap.size wr wr.drew ∧ wr.drew.cell? ⟨x, 1, none⟩ = some (.slice none 0 0) ∧ wr.drew.cell? ⟨q, 0, none⟩ = some (.string coA) ∧ wr.drew.cell? ⟨q, 1, none⟩ = some (.int .i64 1) from ⟨(Below.refl _ _).drew, co_cell C1.out.box rfl, co_cell KQ.out rfl, co_cell KQ.out rfl⟩)
      clear x12 hw
      go_upto_region 5 with fail
      go_region_held3 (fun w' => Below wr.heap.size wr w' ∧ w'.cell? ⟨x, 1, none⟩ = some (.slice none 0 0) ∧ w'.cell? ⟨q, 0, none⟩ = some (.string coA) ∧ w'.cell? ⟨q, 1, none⟩ = some (.int .i64 1))
        (first | assumption | exact S0.out | exact lst_carry (by assumption) (by assumption))
        (first
          | (go_at_call 26; refine (CL.out _).mono ?_; rintro e w' ⟨rfl, hb⟩)
          | (go_at_call 25; refine (CK.out _).mono ?_; rintro e w' ⟨rfl, rfl⟩))
      rename_i T5
      obtain ⟨hb5, -, -, q1⟩ := T5
      have B5 := Lib.hid (B1.out.trans (hb5.mono B1.out.size))
      clear hb5
      go_wp2_with (at_builtin; refine wpList_append_any rfl (.tmp 30) (.tmp 32) 54 rfl w.heap.size 3 i0 (.int .i64 0) 1 8 Tryz.underlying54 hi hz0 hz1 hz2 rfl (by decide) _ 0 [] rfl (World.ownsRow_nil _ _ _ _) _ 1 1 [.int .i64 0] rfl (some_none _) rfl (one_new _ _ _ _) (one_int _ _) (by unfold maxLen; omega) (by omega) (by have := B5.out.size; simp; omega) ?_; intro a3 c3 w3 hown3 hb3 hnil3)
      have A3 := Lib.hid (show HoldsI .i64 w3 a3 1 [0] from holdsZ_own (zs := [0]) hown3)
      have B3 := Lib.hid ((B5.out.alloc B5.out.size _).trans hb3)
      clear hown3 hb3 hnil3
      go_wp2_with fail
      go_roundw
      case rel => exact Or.inr ⟨rfl, a3, c3, rfl, A3, B3⟩
      case measure => simp [intOf]
    · go_wp2_with fail
      go_ret
      exact ⟨a, c, rfl, hA.out, hB.out⟩
end Go.Proofs.YtblipdmagfiigaaGreat
