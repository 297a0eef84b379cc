/- slots: verdicts -/
import Derived.Test.YtfmeppfhckahnaaSl6
import Derived.Test.YtfmeppfhckahnaaLowV
import Derived.Deep.CutRange
import Derived.Deep.QuietTactic
import Derived.BigQuiet
namespace Go.Proofs.Ytfmeppfhckahnaa
open Go.RowKit
set_option linter.unusedVariables false
/-- who has each slot, in an array -/
def WhoAt (w : World) (q : Nat) (s : Sl) : Prop := (∀ k, k < 4 → w.cell? ⟨q, k, none⟩ = some (.int .i64 (s.L k))) ∧ ∀ k, w.frozen? ⟨q, k, none⟩ = false
theorem WhoAt.lt {w : World} {q : Nat} {s : Sl} (h : WhoAt w q s) : q < w.heap.size := lt_of_cell (h.1 0 (by omega))
theorem WhoAt.turn {w w' : World} {q : Nat} {s : Sl} {F : Nat → Prop} (h : WhoAt w q s) (T : Turn F w w') (hF : ¬ F q) : WhoAt w' q s :=
  ⟨fun k hk => by rw [T.cell h.lt hF]; exact h.1 k hk, fun k => by rw [T.frozen h.lt hF]; exact h.2 k⟩
theorem WhoAt.set {w : World} {q : Nat} {s s' : Sl} (h : WhoAt w q s) {i : Nat} (hi : i < 4) (v : Int) (e : s'.L = upd s.L i v) : WhoAt (w.setCell ⟨q, i, none⟩ (.int .i64 v)) q s' := by
  refine ⟨fun k hk => ?_, fun k => by rw [fset_any]; exact h.2 k⟩
  rw [e]
  by_cases e2 : k = i
  · subst e2; rw [upd_at]; exact cset_at (h.1 k hk)
  · rw [upd_ne _ _ _ _ e2, cset_ne (fun x => e2 x.symm)]; exact h.1 k hk
structure SWho (w : World) (b bo ba q : Nat) (s : Sl) (w' : World) : Prop where
  g : SlGood s
  ts : SlAt w' b bo ba s
  wq : WhoAt w' q s
  bel : Below w.heap.size w w'
  hb : ∀ k, slF b bo ba k → w.heap.size ≤ k
  hq : w.heap.size ≤ q
  nq : ¬ slF b bo ba q
theorem SWho.more {w w' w2 : World} {b bo ba q : Nat} {s : Sl} (h : SWho w b bo ba q s w') (hb : Below w'.heap.size w' w2) : SWho w b bo ba q s w2 :=
  ⟨h.g, h.ts.below hb, h.wq.turn (Turn.of_below (F := fun _ => False) hb) (fun x => x), h.bel.trans (hb.mono h.bel.size), h.hb, h.hq, h.nq⟩
/-- the slots have turned, and then the array -/
theorem SWho.step {w w' w1 : World} {b bo ba q : Nat} {s s' : Sl} (h : SWho w b bo ba q s w') (h1 : SlAt w1 b bo ba s') (T : Turn (slF b bo ba) w' w1) (hg : SlGood s') {i : Nat} (hi : i < 4) (v : Int) (e : s'.L = upd s.L i v) :
    SWho w b bo ba q s' (w1.setCell ⟨q, i, none⟩ (.int .i64 v)) := by
  have T2 : Turn (fun k => k = q) w1 (w1.setCell ⟨q, i, none⟩ (.int .i64 v)) := Turn.setCell rfl
  refine ⟨hg, h1.turn T2 (fun k hk e => h.nq (e ▸ hk)), (h.wq.turn T h.nq).set hi v e, (h.bel.trans (T.below h.hb h.bel.size)).setCell h.hq _, h.hb, h.hq, h.nq⟩
theorem SWho.same {w w' w1 : World} {b bo ba q : Nat} {s : Sl} (h : SWho w b bo ba q s w') (h1 : SlAt w1 b bo ba s) (T : Turn (slF b bo ba) w' w1) : SWho w b bo ba q s w1 :=
  ⟨h.g, h1, h.wq.turn T h.nq, h.bel.trans (T.below h.hb h.bel.size), h.hb, h.hq, h.nq⟩
theorem cnt_far {s : Sl} (h : SlGood s) : cnt s.L 4 = taken s := by
  have e : ∀ k, s.n ≤ k → cnt s.L k = cnt s.L s.n := by
    intro k hk
    induction k with
    | zero => rw [show s.n = 0 by omega]
    | succ k ih =>
      by_cases e : s.n = k + 1
      · rw [e]
      · rw [← ih (by omega)]; simp only [cnt]; rw [h.far k (by omega)]; simp
  exact e 4 h.n4
theorem taken_all {s : Sl} (h : SlGood s) {j : Nat} (hj : FirstFree s j) : (taken s = s.n) ↔ j = s.n := by
  have key : ∀ L : Nat → Int, ∀ k, (cnt L k = k ↔ ∀ i, i < k → 0 < L i) := by
    intro L k
    induction k with
    | zero => exact ⟨fun _ _ h => absurd h (by omega), fun _ => rfl⟩
    | succ k ih =>
      have := cnt_le L k
      simp only [cnt]
      constructor
      · intro e i hi
        split at e
        · by_cases e2 : i = k
          · subst e2; assumption
          · exact ih.1 (by omega) i (by omega)
        · omega
      · intro hx
        rw [if_pos (hx k (by omega)), ih.2 (fun i hi => hx i (by omega))]
  unfold taken
  rw [key]
  constructor
  · intro hx
    rcases Nat.lt_or_ge j s.n with h1 | h1
    · have := hx j h1; have := hj.2.2 h1; omega
    · have := hj.1; omega
  · intro e i hi
    have h1 := hj.2.1 i (by omega); have h2 := h.bd i
    omega
theorem slot_of_who {s : Sl} (h : SlGood s) (k : Nat) : (0 < s.L k → SlotOf s (s.L k) (some k)) ∧ (¬ 0 < s.L k → s.L k = 0) := by
  have h1 := h.bd k
  refine ⟨fun hp => ⟨?_, rfl, hp⟩, fun hp => by omega⟩
  rcases Nat.lt_or_ge k s.n with h2 | h2
  · exact h2
  · have := h.far k h2; omega
theorem slot_new {s : Sl} (h : SlGood s) : SlotOf s (s.last + 1) none := Or.inr fun i hi => by have := h.bd i; omega
theorem slot_zero (s : Sl) : SlotOf s 0 none := Or.inl (Int.le_refl _)
theorem freeV_lit {s s' : Sl} {y : Bool} (b bo ba : Nat) (z : Int) (x : Option Nat) (w : World) (h : SlAt w b bo ba s) (hg : SlGood s) (hz : (Lit.int .i64 z).wf = true) (hx : SlotOf s z x) (h1 : x.isSome = y) (h2 : freeS s x = s') :
    Calls Try.prog 12 #[.pointer (some ⟨b, 0, none⟩), .int .i64 z] w fun e w' => e = .returned (.bool y) ∧ SlAt w' b bo ba s' ∧ Turn (slF b bo ba) w w' := by
  subst h1 h2; exact free_any b bo ba z x w h hg hz hx
theorem cell_turn {w w' : World} {q k b bo ba : Nat} {v : Value} (h : w.cell? ⟨q, k, none⟩ = some v) (T : Turn (slF b bo ba) w w') (hF : ¬ slF b bo ba q) : w'.cell? ⟨q, k, none⟩ = some v := by rw [T.cell (lt_of_cell h) hF]; exact h
set_option maxRecDepth 100000 in
set_option maxHeartbeats 6400000 in
theorem slotsVerdicts_any (N : Int) (xs : Nat → SAct) (a : Option Addr) (m ca : Nat) (w : World) (hh : HoldsSA w a m xs) (hm : m ≤ 9223372036854775807) (hx : ∀ i, i < m → SActOk (xs i)) :
    Calls Try.prog 4 #[.int .i64 N, .slice a m ca] w fun e w' => e = .returned (.bool true) ∧ Below w.heap.size w w' := by
  obtain ⟨g, hg⟩ : ∃ g : Bool, g = true ↔ greatSA xs m := ⟨@decide (greatSA xs m) (Classical.propDecidable _), by simp⟩
  have HG := Lib.hid (great_any a m ca xs w hh hm hx g hg)
  have HH := Lib.hid hh; have HX := Lib.hid hx
  clear hh hx
  cases g
  case true =>
    clear hg
    go_enter Try.func4, Try.ntmps4
    go_wp2_with fail
    refine HG.out.mono ?_
    rintro e w' ⟨rfl, rfl⟩
    go_wp2_with fail
    refine (awake_any _).mono ?_
    rintro e w' ⟨rfl, hb⟩
    go_wp2_with fail
    go_ret
    exact ⟨rfl, hb⟩
  have hno : ¬ greatSA xs m := fun h => by simpa using hg.2 h
  have hm100 : m ≤ 100 := by
    rcases Nat.lt_or_ge 100 m with h | h
    · exact absurd (Or.inl h) hno
    · exact h
  clear hg hno
  have hlow := low_bd N 4 (by omega)
  obtain ⟨n, hn⟩ : ∃ n : Nat, 1 + lowV N 4 = n := ⟨(1 + lowV N 4).toNat, by omega⟩
  have hn1 : 1 ≤ n := by omega
  have hn4 : n ≤ 4 := by omega
  have HN := Lib.hid hn
  go_enter Try.func4, Try.ntmps4
  go_wp2_with fail
  refine HG.out.mono ?_
  rintro e w' ⟨rfl, rfl⟩
  go_wp2_with fail
  refine (low_any N 4 (by omega) (by omega) _).mono ?_
  rintro e w' ⟨rfl, rfl⟩
  go_wp2_with fail
  clear hn hlow
  refine (slNew_good n _ ⟨hn1, hn4⟩).mono ?_
  rintro e w1 ⟨b, bo, ba, rfl, t1, k1, u1⟩
  have L1 := t1.lt
  have W1 : Hid (SWho w b bo ba w1.heap.size (newSl n) (w1.alloc (.cells #[.int .i64 0, .int .i64 0, .int .i64 0, .int .i64 0] 48))) := Lib.hid ⟨newSl_good hn1 hn4, t1.below (below_one _ _), ⟨fun k hk => by
    rw [cell_alloc rfl]
    match k, hk with
    | 0, _ => rfl
    | 1, _ => rfl
    | 2, _ => rfl
    | 3, _ => rfl, fun k => frozen_alloc rfl⟩, u1.trans ((below_one _ _).mono u1.size), k1, u1.size, by unfold slF; omega⟩
  clear t1 k1 u1 L1
  go_wp2_with fail
  obtain ⟨q, hq⟩ : ∃ q, w1.heap.size = q := ⟨_, rfl⟩
  rw [hq] at W1
  rw [hq]
  clear hq
  go_loopw [8, 9] (fun l i wr => ∃ (j : Nat) (s : Sl), j ≤ m ∧ i = .int .i64 j ∧ l = .int .i64 s.last ∧ s.last ≤ j ∧ s.n = n ∧ Hid (SWho w b bo ba q s wr)) (fun _ i _ => m - (intOf i).toNat)
  case atStart => exact ⟨0, newSl n, by omega, rfl, rfl, Int.le_refl _, rfl, W1⟩
  case round =>
    obtain ⟨j, s, hj, rfl, rfl, hlast, hsn, hT⟩ := hrel
    by_cases hlt : j < m
    · obtain ⟨ab, ao, rfl, hcell⟩ := (HH.out.below (w' := wr) hT.out.bel) (by omega)
      obtain ⟨c0, c1, c2, c3, c4⟩ := hcell j hlt
      have hok := HX.out j hlt
      clear hcell
      obtain ⟨x, hx⟩ : ∃ x, xs j = x := ⟨_, rfl⟩
      rw [hx] at c0 c1 c2 c3 c4 hok
      clear hx
      obtain ⟨xf, id, t, k, nn⟩ := x
      obtain ⟨hid, hts⟩ := hok
      have V0 := Lib.hid (hT.out.more (below_one wr (.cells #[.bool xf, .int .i64 id, .string t, .int .i64 k, .int .i64 nn] 36)))
      have F0 := Lib.hid (show (wr.alloc (.cells #[.bool xf, .int .i64 id, .string t, .int .i64 k, .int .i64 nn] 36)).cell? ⟨wr.heap.size, 0, none⟩ = some (.bool xf) by rw [cell_alloc rfl]; rfl)
      have X0 := Lib.hid (show (wr.alloc (.cells #[.bool xf, .int .i64 id, .string t, .int .i64 k, .int .i64 nn] 36)).cell? ⟨wr.heap.size, 1, none⟩ = some (.int .i64 id) by rw [cell_alloc rfl]; rfl)
      have Q0 := Lib.hid (show QAt (wr.alloc (.cells #[.bool xf, .int .i64 id, .string t, .int .i64 k, .int .i64 nn] 36)) wr.heap.size 2 t k nn from ⟨by rw [cell_alloc rfl]; rfl, by rw [cell_alloc rfl]; rfl, by rw [cell_alloc rfl]; rfl⟩)
      have hnb := Lib.hid (show ¬ slF b bo ba wr.heap.size by have := hT.out.ts.lt; unfold slF; omega)
      have hnq := Lib.hid (show wr.heap.size ≠ q by have := hT.out.wq.lt; omega)
      have hls0 := hT.out.g.lo
      go_wp2_with fail
      generalize wr.alloc (.cells #[.bool xf, .int .i64 id, .string t, .int .i64 k, .int .i64 nn] 36) = wx at *
      generalize wr.heap.size = cx at *
      clear c0 c1 c2 c3 c4 hT
      go_loop [11, 12] (fun nn k => ∃ i : Nat, i ≤ 4 ∧ k = .int .i64 i ∧ nn = .int .i64 (cnt s.L i)) (fun _ k => 4 - (intOf k).toNat)
      case atStart => exact ⟨0, by omega, rfl, rfl⟩
      case round =>
        obtain ⟨i, hi, rfl, rfl⟩ := hrel
        have hle := cnt_le s.L i
        by_cases hin : i < 4
        · have hc := V0.out.wq.1 i hin
          by_cases hp : 0 < s.L i
          · have hs : cnt s.L (i + 1) = cnt s.L i + 1 := by simp [cnt, hp]
            have HS := Lib.hid hs
            clear hs
            go_wp2_with fail
            go_round
            case rel => exact ⟨i + 1, by omega, by go_num, by rw [HS.out]; go_num⟩
            case measure => simp [intOf]; omega
          · have hs : cnt s.L (i + 1) = cnt s.L i := by simp [cnt, hp]
            have HS := Lib.hid hs
            clear hs
            go_wp2_with fail
            go_round
            case rel => exact ⟨i + 1, by omega, by go_num, by rw [HS.out]⟩
            case measure => simp [intOf]; omega
        · obtain rfl : i = 4 := by omega
          rw [cnt_far V0.out.g]
          have hlast63 : s.last < 4611686018427387904 := by omega
          have xf0 := F0.out
          cases xf
          case true =>
            have xi := X0.out
            have hk := low_bd id 4 (by omega)
            obtain ⟨kk, hkk⟩ : ∃ kk : Nat, lowV id 4 = kk := ⟨(lowV id 4).toNat, by omega⟩
            have hk4 : kk < 4 := by omega
            have LK := Lib.hid hkk
            have wk := V0.out.wq.1 kk hk4
            have wf := V0.out.wq.2
            obtain ⟨so1, so2⟩ := slot_of_who V0.out.g kk
            have SO1 := Lib.hid so1; have SO2 := Lib.hid so2
            have bdk := V0.out.g.bd kk
            have wz : (Lit.int .i64 (s.L kk)).wf = true := wf64 (by omega)
            have wz1 : (Lit.int .i64 (s.last + 1)).wf = true := wf64 (by omega)
            have LW := Lib.hid (low_any id 4 (by omega) (by omega) wx)
            rw [hkk] at LW
            clear so1 so2 hkk hk
            have NQ := Lib.hid V0.out.nq
            have VD := Lib.hid (V0.out.more (Below.refl _ _).drew)
            have wk0 : wx.drew.cell? ⟨q, kk, none⟩ = some (.int .i64 (s.L kk)) := wk
            have WK := Lib.hid wk0
            have SN := Lib.hid (slot_new V0.out.g)
            have SZ := Lib.hid (slot_zero s)
            have q1 : (0 : Int) ≤ (kk : Int) := by omega
            have q2 : (kk : Int) < 4 := by omega
            clear wk0
            by_cases hp : 0 < s.L kk
            · have so := Lib.hid (SO1.out hp)
              obtain ⟨s', hs'⟩ : ∃ s', freeS s (some kk) = s' := ⟨_, rfl⟩
              have G2 := Lib.hid (hs' ▸ freeS_good V0.out.g (some kk))
              have EL := Lib.hid (show s'.L = upd s.L kk 0 from hs' ▸ rfl)
              have Ela := Lib.hid (show s'.last = s.last from hs' ▸ rfl)
              have En := Lib.hid (show s'.n = n from hs' ▸ hsn)
              have SN2 := Lib.hid (show SlotOf s' (s.last + 1) none from Ela.out ▸ slot_new G2.out)
              have SZ2 := Lib.hid (slot_zero s')
              have HS := Lib.hid hs'
              have d1 : decide (s.L kk > 0) = true := decide_eq_true hp
              clear hs' hp SO1 SO2 hsn
              have hw1 : IntKind.i64.wrap (s.last + 1) = s.last + 1 := IntWalk.i64_in _ (by omega)
              go_wp2_with fail
              refine LW.out.mono ?_
              rintro e w' ⟨rfl, rfl⟩
              go_upto_region 21 with fail
              go_region_held3 (fun w' => w'.cell? ⟨q, kk, none⟩ = some (.int .i64 (s.L kk)))
                (first | assumption | exact WK.out | exact cell_turn (by assumption) (by assumption) NQ.out)
                (first | ((with_reducible refine (freeV_lit b bo ba (s.L kk) (some kk) _ VD.out.ts VD.out.g wz so.out rfl HS.out).mono ?_); rintro e w' ⟨rfl, h1, t1⟩) | ((with_reducible refine (freeV_lit (s := s') (s' := s') b bo ba (s.last + 1) none _ (by assumption) G2.out wz1 SN2.out rfl rfl).mono ?_); rintro e w' ⟨rfl, h2, t2⟩) | ((with_reducible refine (freeV_lit (s := s') (s' := s') b bo ba 0 none _ (by assumption) G2.out (by decide) SZ2.out rfl rfl).mono ?_); rintro e w' ⟨rfl, h3, t3⟩))
              have T := Lib.hid ((t1.trans t2).trans t3)
              have V3 := Lib.hid (VD.out.step h3 T.out G2.out hk4 0 EL.out)
              have WQ := VD.out.wq.turn T.out NQ.out
              have wk3 := WQ.1 kk hk4
              have wf3 := WQ.2
              clear hw1 t1 t2 t3 h1 h2 h3 WQ wk wf
              go_wp2_with fail
              go_roundw
              case rel => exact ⟨j + 1, s', by omega, by go_num, by rw [Ela.out], by rw [Ela.out]; omega, En.out, V3⟩
              case measure => simp [intOf]; omega
            · have hz : s.L kk = 0 := SO2.out hp
              have VS := Lib.hid (VD.out.ts)
              have d1 : decide ((0 : Int) > 0) = false := by decide
              have EL := Lib.hid (show s.L = upd s.L kk 0 from (by
                funext i
                by_cases e : i = kk
                · subst e; rw [upd_at]; exact hz
                · rw [upd_ne _ _ _ _ e]))
              rw [hz] at WK wk
              clear hz hp SO1 SO2 wz
              have hw1 : IntKind.i64.wrap (s.last + 1) = s.last + 1 := IntWalk.i64_in _ (by omega)
              go_wp2_with fail
              refine LW.out.mono ?_
              rintro e w' ⟨rfl, rfl⟩
              go_upto_region 21 with fail
              go_region_held3 (fun w' => w'.cell? ⟨q, kk, none⟩ = some (.int .i64 0) ∧ SlAt w' b bo ba s)
                (first | assumption | exact ⟨WK.out, VD.out.ts⟩ | exact ⟨cell_turn (And.left (by assumption)) (by assumption) NQ.out, by assumption⟩)
                (first | ((with_reducible refine (freeV_lit (s := s) (s' := s) b bo ba (s.last + 1) none _ (And.right (by assumption)) VD.out.g wz1 SN.out rfl rfl).mono ?_); rintro e w' ⟨rfl, h2, t2⟩) | ((with_reducible refine (freeV_lit (s := s) (s' := s) b bo ba 0 none _ (And.right (by assumption)) VD.out.g (by decide) SZ.out rfl rfl).mono ?_); rintro e w' ⟨rfl, h3, t3⟩))
              rename_i w3 h31 t31 w4 hh
              have T := Lib.hid ((t31.trans t2).trans t3)
              have V3 := Lib.hid (VD.out.step h3 T.out VD.out.g hk4 0 EL.out)
              have WQ := VD.out.wq.turn T.out NQ.out
              have wk3 := WQ.1 kk hk4
              have wf3 := WQ.2
              clear hw1 t31 t2 t3 h31 h2 h3 WQ wk wf hh
              go_wp2_with fail
              go_roundw
              case rel => exact ⟨j + 1, s, by omega, by go_num, rfl, by omega, hsn, V3⟩
              case measure => simp [intOf]; omega
          case false =>
            obtain ⟨jj, hjj⟩ := firstFree_ex s
            have JJ := Lib.hid hjj
            obtain ⟨ok, hok⟩ : ∃ ok, decide (mayP t k nn) = ok := ⟨_, rfl⟩
            have OK := Lib.hid hok
            have MAY := Lib.hid (fun w => may_lit t k nn ok w hts hok)
            have TA := Lib.hid (taken_all V0.out.g hjj)
            have hjn := hjj.1
            have hle4 := cnt_le s.L s.n
            clear hok hjj
            obtain ⟨y1, y2, y3⟩ := Q0.out
            cases ok with
            | false =>
              have b1 := Lib.hid (show subV false s jj = 1 from rfl)
              have b2 := Lib.hid (show subN false s jj = 0 by simp [subN])
              have b3 := Lib.hid (show subI false s jj = 0 by simp [subI])
              have b4 := Lib.hid (show subS false s jj = s by simp [subS])
              go_wp2_with fail
              refine (submit_lit b bo ba jj false t k nn _ V0.out.ts V0.out.g JJ.out hlast63 hts OK.out b1.out b2.out b3.out b4.out).mono ?_
              rintro r w3 ⟨rfl, h3, t3⟩
              have V3 := Lib.hid (V0.out.same h3 t3)
              clear y1 y2 y3
              obtain ⟨y1, y2, y3⟩ := Q0.out.turn t3 hnb.out
              clear h3 t3
              go_wp2_with fail
              refine (MAY.out _).mono ?_
              rintro r w4 ⟨rfl, hb4⟩
              have V4 := Lib.hid (V3.out.more hb4)
              clear hb4 y1 y2 y3
              go_wp2_with fail
              go_roundw
              case rel => exact ⟨j + 1, s, by omega, by go_num, rfl, by omega, hsn, V4⟩
              case measure => simp [intOf]; omega
            | true =>
              by_cases hjn2 : jj < s.n
              · have b1 := Lib.hid (show subV true s jj = 3 by simp [subV, hjn2])
                have b2 := Lib.hid (show subN true s jj = s.last + 1 by simp [subN, hjn2])
                have b3 := Lib.hid (show subI true s jj = jj by simp [subI, hjn2])
                have b4 := Lib.hid (show subS true s jj = gaveS s jj by simp [subS, hjn2])
                have hj0 := JJ.out.2.2 hjn2
                have G2 := Lib.hid (gaveS_good V0.out.g hjn2)
                have x1 : (((taken s : Nat) : Int) == (n : Int)) = false := by
                  have := TA.out
                  simp only [beq_eq_false_iff_ne, ne_eq]
                  intro e
                  have := this.1 (by omega)
                  omega
                have hj4 : jj < 4 := by omega
                have hjn3 : jj < n := by omega
                have q1 : (0 : Int) ≤ (jj : Int) := by omega
                have q2 : (jj : Int) < (n : Int) := by omega
                have q3 : (jj : Int) < 4 := by omega
                go_wp2_with fail
                refine (submit_lit b bo ba jj true t k nn _ V0.out.ts V0.out.g JJ.out hlast63 hts OK.out b1.out b2.out b3.out b4.out).mono ?_
                rintro r w3 ⟨rfl, h3, t3⟩
                clear y1 y2 y3
                obtain ⟨y1, y2, y3⟩ := Q0.out.turn t3 hnb.out
                have H3 := Lib.hid h3; have T3 := Lib.hid t3
                clear h3 t3
                go_wp2_with fail
                refine (MAY.out _).mono ?_
                rintro r w4 ⟨rfl, hb4⟩
                have T4 := Lib.hid (T3.out.trans (Turn.of_below hb4))
                have V4 := Lib.hid (V0.out.step (s' := gaveS s jj) (H3.out.below hb4) T4.out G2.out hj4 (s.last + 1) rfl)
                have WQ := V0.out.wq.turn T4.out V0.out.nq
                have wk3 := WQ.1 jj hj4
                rw [hj0] at wk3
                have wf3 := WQ.2
                clear hb4 y1 y2 y3 WQ hj0
                go_wp2_with fail
                go_roundw
                case rel => exact ⟨j + 1, gaveS s jj, by omega, by go_num, rfl, by show s.last + 1 ≤ _; omega, hsn, V4⟩
                case measure => simp [intOf]; omega
              · obtain rfl : jj = s.n := by omega
                have b1 := Lib.hid (show subV true s s.n = 2 by simp [subV])
                have b2 := Lib.hid (show subN true s s.n = 0 by simp [subN])
                have b3 := Lib.hid (show subI true s s.n = 0 by simp [subI])
                have b4 := Lib.hid (show subS true s s.n = s by simp [subS])
                have x1 : (((taken s : Nat) : Int) == (n : Int)) = true := by
                  have := TA.out.2 rfl
                  simp only [beq_iff_eq]
                  omega
                go_wp2_with fail
                refine (submit_lit b bo ba s.n true t k nn _ V0.out.ts V0.out.g JJ.out hlast63 hts OK.out b1.out b2.out b3.out b4.out).mono ?_
                rintro r w3 ⟨rfl, h3, t3⟩
                have V3 := Lib.hid (V0.out.same h3 t3)
                clear y1 y2 y3
                obtain ⟨y1, y2, y3⟩ := Q0.out.turn t3 hnb.out
                clear h3 t3
                go_wp2_with fail
                refine (MAY.out _).mono ?_
                rintro r w4 ⟨rfl, hb4⟩
                have V4 := Lib.hid (V3.out.more hb4)
                clear hb4 y1 y2 y3
                go_wp2_with fail
                go_roundw
                case rel => exact ⟨j + 1, s, by omega, by go_num, rfl, by omega, hsn, V4⟩
                case measure => simp [intOf]; omega
    · have la := last_any b bo ba wr hT.out.ts
      have LA := Lib.hid la
      clear la
      have x1 : (s.last == s.last) = true := by simp
      go_wp2_with fail
      refine LA.out.mono ?_
      rintro e w' ⟨rfl, rfl⟩
      go_wp2_with fail
      refine (awake_any _).mono ?_
      rintro e w' ⟨rfl, hb⟩
      go_wp2_with fail
      go_ret
      exact ⟨rfl, hT.out.bel.trans (hb.mono hT.out.bel.size)⟩
open Go.ChangeShapes Go.WideShapes Go.ChangeAt in
theorem slotsVerdicts_walk {H : Type} {enc : TypeId × Value → H} (W : World) (base : Nat) (v0 v1 : Value) (d0 d1 : DataW H) (p0 p1 : List MemPlace)
    (h0 : DataW.Trod enc Try.prog W 0 (fun _ => true) true 3 v0 d0 p0) (h1 : DataW.Trod enc Try.prog W 0 (fun _ => true) true 22 v1 d1 p1)
    (o0 : Value.okWide Try.prog W .any base 3 v0) (o1 : Value.okWide Try.prog W .any base 22 v1) :
    Calls Try.prog 4 #[v0, v1] W fun e w' => e = .returned (.bool true) ∧ RowKit.Below W.heap.size W w' := by
  obtain ⟨n, rfl, rfl, rfl, _⟩ := open_int Try.underlying3 o0 h0
  obtain ⟨a, m, cap, xs, rfl, hh, k2, hx⟩ := open_sacts_arg o1 h1
  exact slotsVerdicts_any n xs a m cap W hh (by unfold maxLen at k2; omega) hx
end Go.Proofs.Ytfmeppfhckahnaa
