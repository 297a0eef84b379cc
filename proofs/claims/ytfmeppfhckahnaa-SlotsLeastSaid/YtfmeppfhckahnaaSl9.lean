/- slots: who is accepted has the least slot that is free -/
import Derived.Test.YtfmeppfhckahnaaSl8
namespace Go.Proofs.Ytfmeppfhckahnaa
open Go.RowKit
set_option linter.unusedVariables false
set_option maxRecDepth 100000 in
set_option maxHeartbeats 6400000 in
theorem slotsLeast_any (N : Int) (zs : List Int) (a : Option Addr) (m ca : Nat) (w : World) (hh : HoldsI .i64 w a m zs) (hm : m ≤ 9223372036854775807) :
    Calls Try.prog 6 #[.int .i64 N, .slice a m ca] w fun e w' => e = .returned (.bool true) ∧ Below w.heap.size w w' := by
  have HH := Lib.hid hh
  clear hh
  by_cases hlong : 60 < m
  · go_enter Try.func6, Try.ntmps6
    go_wp2_with fail
    refine (awake_any _).mono ?_
    rintro e w' ⟨rfl, hb⟩
    go_wp2_with fail
    go_ret
    exact ⟨rfl, hb⟩
  have hm60 : m ≤ 60 := by omega
  clear hlong
  have hlow := low_bd N 4 (by omega)
  obtain ⟨n, hn⟩ : ∃ n : Nat, 1 + lowV N 4 = n := ⟨(1 + lowV N 4).toNat, by omega⟩
  have hn1 : 1 ≤ n := by omega
  have hn4 : n ≤ 4 := by omega
  have HN := Lib.hid hn
  have szA : (⟨#[97]⟩ : ByteArray).size ≤ 9223372036854775807 := by decide
  have okA := Lib.hid (decide_eq_true (show mayP ⟨#[97]⟩ 1 1 by unfold mayP; rw [lenS_a]; omega))
  go_enter Try.func6, Try.ntmps6
  go_wp2_with fail
  refine (low_any N 4 (by omega) (by omega) _).mono ?_
  rintro e w' ⟨rfl, rfl⟩
  go_wp2_with fail
  clear hn hlow
  refine (slNew_good n _ ⟨hn1, hn4⟩).mono ?_
  rintro e w1 ⟨b, bo, ba, rfl, t1, k1, u1⟩
  have L1 := t1.lt
  have W1 : Hid (SWho w b bo ba w1.heap.size (newSl n) (w1.alloc (.cells #[.int .i64 0, .int .i64 0, .int .i64 0, .int .i64 0] 48))) := Lib.hid ⟨newSl_good hn1 hn4, t1.below (below_one _ _), ⟨fun k hk => by
    rw [cell_alloc rfl]
    match k, hk with
    | 0, _ => rfl
    | 1, _ => rfl
    | 2, _ => rfl
    | 3, _ => rfl, fun k => frozen_alloc rfl⟩, u1.trans ((below_one _ _).mono u1.size), k1, u1.size, by unfold slF; omega⟩
  clear t1 k1 u1 L1
  go_wp2_with fail
  obtain ⟨q, hq⟩ : ∃ q, w1.heap.size = q := ⟨_, rfl⟩
  rw [hq] at W1
  rw [hq]
  clear hq
  go_loopw [9, 10] (fun l i wr => ∃ (j : Nat) (s : Sl), j ≤ m ∧ i = .int .i64 j ∧ l = .int .i64 s.last ∧ s.last ≤ j ∧ s.n = n ∧ Hid (SWho w b bo ba q s wr)) (fun _ i _ => m - (intOf i).toNat)
  case atStart => exact ⟨0, newSl n, by omega, rfl, rfl, Int.le_refl _, rfl, W1⟩
  case round =>
    obtain ⟨j, s, hj, rfl, rfl, hlast, hsn, V0⟩ := hrel
    by_cases hlt : j < m
    · obtain ⟨jj, hjj⟩ := firstFree_ex s
      have JJ := Lib.hid hjj
      have hjn := hjj.1
      have hls0 := V0.out.g.lo
      have hlast63 : s.last < 4611686018427387904 := by omega
      clear hjj
      go_wp2_with fail
      go_loop [11] (fun k => ∃ i : Nat, i ≤ jj ∧ k = .int .i64 i) (fun k => jj + 1 - (intOf k).toNat)
      case atStart => exact ⟨0, by omega, rfl⟩
      case round =>
        obtain ⟨i, hi, rfl⟩ := hrel
        by_cases hij : i < jj
        · have hc := V0.out.wq.1 i (by omega)
          have hne := JJ.out.2.1 i hij
          have hbd := V0.out.g.bd i
          have hp : 0 < s.L i := by omega
          have hin : i < n := by omega
          clear hne
          go_wp2_with fail
          go_round
          case rel => exact ⟨i + 1, by omega, by go_num⟩
          case measure => simp [intOf]; omega
        · obtain rfl : i = jj := by omega
          clear hij
          by_cases hjn2 : i < s.n
          · have hin : i < n := by omega
            have hj0 := JJ.out.2.2 hjn2
            have hc := V0.out.wq.1 i (by omega)
            rw [hj0] at hc
            have b1 := Lib.hid (show subV true s i = 3 by simp [subV, hjn2])
            have b2 := Lib.hid (show subN true s i = s.last + 1 by simp [subN, hjn2])
            have b3 := Lib.hid (show subI true s i = i by simp [subI, hjn2])
            have b4 := Lib.hid (show subS true s i = gaveS s i by simp [subS, hjn2])
            have G1 := Lib.hid (gaveS_good V0.out.g hjn2)
            have x1 : ((i : Int) == (n : Int)) = false := by simp; omega
            have hi4 : i < 4 := by omega
            have HL1 := Lib.hid (show (gaveS s i).last ≤ (j : Int) + 1 by show s.last + 1 ≤ _; omega)
            clear hjn2
            go_wp2_with fail
            refine (submit_lit b bo ba i true ⟨#[97]⟩ 1 1 _ V0.out.ts V0.out.g JJ.out hlast63 szA okA.out b1.out b2.out b3.out b4.out).mono ?_
            rintro r w3 ⟨rfl, h3, t3⟩
            have V1 := Lib.hid (V0.out.step (s' := gaveS s i) h3 t3 G1.out hi4 (s.last + 1) rfl)
            have WQ := V0.out.wq.turn t3 V0.out.nq
            have wk3 := WQ.1 i hi4
            have wf3 := WQ.2
            have nx : IntKind.i64.wrap (s.last + 1) = s.last + 1 := IntWalk.i64_in _ (by omega)
            clear h3 t3 WQ hc hj0 nx
            go_upto_region 23 with fail
            clear wk3 wf3
            generalize w3.setCell ⟨q, i, none⟩ (.int .i64 (s.last + 1)) = wz at *
            obtain ⟨ab, ao, ha, hcell⟩ := (HH.out.below (w' := _) V1.out.bel).at (by omega)
            subst ha
            have hz := hcell j hlt
            clear hcell
            obtain ⟨z, hzz⟩ : ∃ z, zs.getD j 0 = z := ⟨_, rfl⟩
            rw [hzz] at hz
            clear hzz
            have hk := low_bd z (2 * (n : Int)) (by omega)
            obtain ⟨kk, hkk⟩ : ∃ kk : Nat, lowV z (2 * (n : Int)) = kk := ⟨(lowV z (2 * (n : Int))).toNat, by omega⟩
            have hkn : kk < 2 * n := by omega
            have LW := Lib.hid (fun w => low_any z (2 * (n : Int)) (by omega) (by omega) w)
            rw [hkk] at LW
            clear hkk hk
            have NQ := Lib.hid V1.out.nq
            have SO := Lib.hid (slot_of_who V1.out.g kk)
            by_cases hkk : kk < n
            · have hk4 : kk < 4 := by omega
              have wk := V1.out.wq.1 kk hk4
              have wf := V1.out.wq.2
              have q1 : (0 : Int) ≤ (kk : Int) := by omega
              have q2 : (kk : Int) < 4 := by omega
              have VD := Lib.hid (V1.out.more (Below.refl _ _).drew)
              have wkd := VD.out.wq.1 kk hk4
              have WK := Lib.hid wkd
              have bdk := V1.out.g.bd kk
              have hl1 : (gaveS s i).last ≤ (j : Int) + 1 := HL1.out
              by_cases hp : 0 < (gaveS s i).L kk
              · have so := Lib.hid (SO.out.1 hp)
                have wz : (Lit.int .i64 ((gaveS s i).L kk)).wf = true := wf64 (by omega)
                obtain ⟨v, hv⟩ : ∃ v, (gaveS s i).L kk = v := ⟨_, rfl⟩
                rw [hv] at wk wkd WK so wz hp
                clear hv bdk
                obtain ⟨s', hs'⟩ : ∃ s', freeS (gaveS s i) (some kk) = s' := ⟨_, rfl⟩
                have G2 := Lib.hid (hs' ▸ freeS_good V1.out.g (some kk))
                have EL := Lib.hid (show s'.L = upd (gaveS s i).L kk 0 from hs' ▸ rfl)
                have Ela := Lib.hid (show s'.last = (gaveS s i).last from hs' ▸ rfl)
                have En := Lib.hid (show s'.n = n from hs' ▸ hsn)
                have HS := Lib.hid hs'
                have d1 : decide (v > 0) = true := decide_eq_true hp
                clear hs' hp
                go_wp2_with fail
                refine (LW.out _).mono ?_
                rintro e w' ⟨rfl, rfl⟩
                clear wkd
                go_upto_region 25 with fail
                go_region_held3 (fun w' => w'.cell? ⟨q, kk, none⟩ = some (.int .i64 v))
                  (first | assumption | exact WK.out | exact cell_turn (by assumption) (by assumption) NQ.out)
                  (((with_reducible refine (freeV_lit b bo ba v (some kk) _ VD.out.ts VD.out.g wz so.out rfl HS.out).mono ?_); rintro e w' ⟨rfl, h1, t1⟩))
                have V3 := Lib.hid (VD.out.step h1 t1 G2.out hk4 0 EL.out)
                have WQ := VD.out.wq.turn t1 NQ.out
                have wk3 := WQ.1 kk hk4
                have wf3 := WQ.2
                clear t1 h1 WQ wk wf
                go_wp2_with fail
                go_roundw
                case rel => exact ⟨j + 1, s', by omega, by go_num, by rw [Ela.out]; rfl, by rw [Ela.out]; omega, En.out, V3⟩
                case measure => simp [intOf]; omega
              · have hz0 := SO.out.2 hp
                have EL := Lib.hid (show (gaveS s i).L = upd (gaveS s i).L kk 0 from (by
                  funext i
                  by_cases e : i = kk
                  · subst e; rw [upd_at]; exact hz0
                  · rw [upd_ne _ _ _ _ e]))
                rw [hz0] at wk wkd WK
                have SZ := Lib.hid (slot_zero (gaveS s i))
                have d1 : decide ((0 : Int) > 0) = false := by decide
                clear hz0 hp bdk
                go_wp2_with fail
                refine (LW.out _).mono ?_
                rintro e w' ⟨rfl, rfl⟩
                clear wkd
                go_upto_region 25 with fail
                go_region_held3 (fun w' => w'.cell? ⟨q, kk, none⟩ = some (.int .i64 0))
                  (first | assumption | exact WK.out | exact cell_turn (by assumption) (by assumption) NQ.out)
                  (((with_reducible refine (freeV_lit (s := gaveS s i) (s' := gaveS s i) b bo ba 0 none _ VD.out.ts VD.out.g (by decide) SZ.out rfl rfl).mono ?_); rintro e w' ⟨rfl, h1, t1⟩))
                have V3 := Lib.hid (VD.out.step h1 t1 VD.out.g hk4 0 EL.out)
                have WQ := VD.out.wq.turn t1 NQ.out
                have wk3 := WQ.1 kk hk4
                have wf3 := WQ.2
                clear t1 h1 WQ wk wf
                go_wp2_with fail
                go_roundw
                case rel => exact ⟨j + 1, gaveS s i, by omega, by go_num, rfl, by omega, hsn, V3⟩
                case measure => simp [intOf]; omega
            · have hl1 : (gaveS s i).last ≤ (j : Int) + 1 := HL1.out
              go_wp2_with fail
              refine (LW.out _).mono ?_
              rintro e w' ⟨rfl, rfl⟩
              go_wp2_with fail
              go_roundw
              case rel => exact ⟨j + 1, gaveS s i, by omega, by go_num, rfl, by omega, hsn, V1⟩
              case measure => simp [intOf]; omega
          · obtain rfl : i = s.n := by omega
            have b1 := Lib.hid (show subV true s s.n = 2 by simp [subV])
            have b2 := Lib.hid (show subN true s s.n = 0 by simp [subN])
            have b3 := Lib.hid (show subI true s s.n = 0 by simp [subI])
            have b4 := Lib.hid (show subS true s s.n = s by simp [subS])
            have HL1 := Lib.hid (show s.last ≤ (j : Int) + 1 by omega)
            have x1 : ((s.n : Int) == (n : Int)) = true := by simp; omega
            go_wp2_with fail
            refine (submit_lit b bo ba s.n true ⟨#[97]⟩ 1 1 _ V0.out.ts V0.out.g JJ.out hlast63 szA okA.out b1.out b2.out b3.out b4.out).mono ?_
            rintro r w3 ⟨rfl, h3, t3⟩
            have V1 := Lib.hid (V0.out.same h3 t3)
            clear h3 t3
            go_upto_region 23 with fail
            obtain ⟨ab, ao, ha, hcell⟩ := (HH.out.below (w' := _) V1.out.bel).at (by omega)
            subst ha
            have hz := hcell j hlt
            clear hcell
            obtain ⟨z, hzz⟩ : ∃ z, zs.getD j 0 = z := ⟨_, rfl⟩
            rw [hzz] at hz
            clear hzz
            have hk := low_bd z (2 * (n : Int)) (by omega)
            obtain ⟨kk, hkk⟩ : ∃ kk : Nat, lowV z (2 * (n : Int)) = kk := ⟨(lowV z (2 * (n : Int))).toNat, by omega⟩
            have hkn : kk < 2 * n := by omega
            have LW := Lib.hid (fun w => low_any z (2 * (n : Int)) (by omega) (by omega) w)
            rw [hkk] at LW
            clear hkk hk
            have NQ := Lib.hid V1.out.nq
            have SO := Lib.hid (slot_of_who V1.out.g kk)
            by_cases hkk : kk < n
            · have hk4 : kk < 4 := by omega
              have wk := V1.out.wq.1 kk hk4
              have wf := V1.out.wq.2
              have q1 : (0 : Int) ≤ (kk : Int) := by omega
              have q2 : (kk : Int) < 4 := by omega
              have VD := Lib.hid (V1.out.more (Below.refl _ _).drew)
              have wkd := VD.out.wq.1 kk hk4
              have WK := Lib.hid wkd
              have bdk := V1.out.g.bd kk
              have hl1 : (s).last ≤ (j : Int) + 1 := HL1.out
              by_cases hp : 0 < (s).L kk
              · have so := Lib.hid (SO.out.1 hp)
                have wz : (Lit.int .i64 ((s).L kk)).wf = true := wf64 (by omega)
                obtain ⟨v, hv⟩ : ∃ v, (s).L kk = v := ⟨_, rfl⟩
                rw [hv] at wk wkd WK so wz hp
                clear hv bdk
                obtain ⟨s', hs'⟩ : ∃ s', freeS (s) (some kk) = s' := ⟨_, rfl⟩
                have G2 := Lib.hid (hs' ▸ freeS_good V1.out.g (some kk))
                have EL := Lib.hid (show s'.L = upd (s).L kk 0 from hs' ▸ rfl)
                have Ela := Lib.hid (show s'.last = (s).last from hs' ▸ rfl)
                have En := Lib.hid (show s'.n = n from hs' ▸ hsn)
                have HS := Lib.hid hs'
                have d1 : decide (v > 0) = true := decide_eq_true hp
                clear hs' hp
                go_wp2_with fail
                refine (LW.out _).mono ?_
                rintro e w' ⟨rfl, rfl⟩
                clear wkd
                go_upto_region 25 with fail
                go_region_held3 (fun w' => w'.cell? ⟨q, kk, none⟩ = some (.int .i64 v))
                  (first | assumption | exact WK.out | exact cell_turn (by assumption) (by assumption) NQ.out)
                  (((with_reducible refine (freeV_lit b bo ba v (some kk) _ VD.out.ts VD.out.g wz so.out rfl HS.out).mono ?_); rintro e w' ⟨rfl, h1, t1⟩))
                have V3 := Lib.hid (VD.out.step h1 t1 G2.out hk4 0 EL.out)
                have WQ := VD.out.wq.turn t1 NQ.out
                have wk3 := WQ.1 kk hk4
                have wf3 := WQ.2
                clear t1 h1 WQ wk wf
                go_wp2_with fail
                go_roundw
                case rel => exact ⟨j + 1, s', by omega, by go_num, by rw [Ela.out], by rw [Ela.out]; omega, En.out, V3⟩
                case measure => simp [intOf]; omega
              · have hz0 := SO.out.2 hp
                have EL := Lib.hid (show (s).L = upd (s).L kk 0 from (by
                  funext i
                  by_cases e : i = kk
                  · subst e; rw [upd_at]; exact hz0
                  · rw [upd_ne _ _ _ _ e]))
                rw [hz0] at wk wkd WK
                have SZ := Lib.hid (slot_zero (s))
                have d1 : decide ((0 : Int) > 0) = false := by decide
                clear hz0 hp bdk
                go_wp2_with fail
                refine (LW.out _).mono ?_
                rintro e w' ⟨rfl, rfl⟩
                clear wkd
                go_upto_region 25 with fail
                go_region_held3 (fun w' => w'.cell? ⟨q, kk, none⟩ = some (.int .i64 0))
                  (first | assumption | exact WK.out | exact cell_turn (by assumption) (by assumption) NQ.out)
                  (((with_reducible refine (freeV_lit (s := s) (s' := s) b bo ba 0 none _ VD.out.ts VD.out.g (by decide) SZ.out rfl rfl).mono ?_); rintro e w' ⟨rfl, h1, t1⟩))
                have V3 := Lib.hid (VD.out.step h1 t1 VD.out.g hk4 0 EL.out)
                have WQ := VD.out.wq.turn t1 NQ.out
                have wk3 := WQ.1 kk hk4
                have wf3 := WQ.2
                clear t1 h1 WQ wk wf
                go_wp2_with fail
                go_roundw
                case rel => exact ⟨j + 1, s, by omega, by go_num, rfl, by omega, hsn, V3⟩
                case measure => simp [intOf]; omega
            · have hl1 : (s).last ≤ (j : Int) + 1 := HL1.out
              go_wp2_with fail
              refine (LW.out _).mono ?_
              rintro e w' ⟨rfl, rfl⟩
              go_wp2_with fail
              go_roundw
              case rel => exact ⟨j + 1, s, by omega, by go_num, rfl, by omega, hsn, V1⟩
              case measure => simp [intOf]; omega
    · have la := last_any b bo ba wr V0.out.ts
      have LA := Lib.hid la
      clear la
      have x1 : (s.last == s.last) = true := by simp
      go_wp2_with fail
      refine LA.out.mono ?_
      rintro e w' ⟨rfl, rfl⟩
      go_wp2_with fail
      refine (awake_any _).mono ?_
      rintro e w' ⟨rfl, hb⟩
      go_wp2_with fail
      go_ret
      exact ⟨rfl, V0.out.bel.trans (hb.mono V0.out.bel.size)⟩
open Go.ChangeShapes Go.WideShapes Go.ChangeAt in
theorem slotsLeast_walk {H : Type} {enc : TypeId × Value → H} (W : World) (base : Nat) (v0 v1 : Value) (d0 d1 : DataW H) (p0 p1 : List MemPlace)
    (h0 : DataW.Trod enc Try.prog W 0 (fun _ => true) true 3 v0 d0 p0) (h1 : DataW.Trod enc Try.prog W 0 (fun _ => true) true 42 v1 d1 p1)
    (o0 : Value.okWide Try.prog W .any base 3 v0) (o1 : Value.okWide Try.prog W .any base 42 v1) :
    Calls Try.prog 6 #[v0, v1] W fun e w' => e = .returned (.bool true) ∧ RowKit.Below W.heap.size W w' := by
  obtain ⟨n, rfl, rfl, rfl, _⟩ := open_int Try.underlying3 o0 h0
  obtain ⟨a, m, cap, zs, rfl, hh, _, k2, k3, _⟩ := open_ints_arg Try.underlying42 Try.underlying3 (by kernel_rfl) o1 h1
  exact slotsLeast_any n zs a m cap W hh (by unfold maxLen at k3; omega)
end Go.Proofs.Ytfmeppfhckahnaa
