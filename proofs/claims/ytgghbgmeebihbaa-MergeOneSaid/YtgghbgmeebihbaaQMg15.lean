/- merge: one shard (plain) -/
import Derived.Test.YtgghbgmeebihbaaPkC
namespace Go.Proofs.Ytgghbgmeebihbaa
open Go.RowKit
set_option linter.unusedVariables false
set_option maxRecDepth 20000
def sh1 (e : Bool) (q : Int) (rc : Bool) (l : KV) (ks : List KV) : SM := ⟨0, e, q, rc, l, none, ks.length, 0, ks⟩
theorem pop_sh1 (e : Bool) (q : Int) (rc : Bool) (l k : KV) (ks : List KV) : popS (sh1 e q rc l (k :: ks)) = sh1 e q rc l ks := by simp [popS, sh1]
theorem put_sh1 (q : Int) (rc : Bool) (l : KV) (ks : List KV) (e : Bool) : putSM (sh1 false q rc l []) ks e = sh1 e (q + 1) (rc || decide (0 < ks.length)) (if 0 < ks.length then ks.getD (ks.length - 1) k0 else l) ks := rfl
theorem done_sh1 (most : Int) (T : List KV) (e : Bool) (q : Int) (rc : Bool) (l : KV) (ks : List KV) : doneB most T [sh1 e q rc l ks] = (decide (most ≤ (T.length : Int)) || (e && decide (ks.length = 0))) := by
  have h1 : doneB most T [sh1 e q rc l ks] = (decide (most ≤ (T.length : Int)) || !((!e || decide (0 < ks.length)) || false)) := rfl
  rw [h1]
  cases ks <;> cases e <;> simp
theorem first_one (k : KV) : firstL [(0, k)] = (0, k) := by
  show bestF (0, k) (0, k) = (0, k)
  unfold bestF
  split <;> rfl
theorem tell_sh1 (most : Int) (e : Bool) (q : Int) (rc : Bool) (l : KV) : ∀ (f : Nat) (T ks out : List KV), most ≤ (T.length : Int) + f →
    tellF most f T [sh1 e q rc l ks] out = (T ++ ks.take (most - T.length).toNat, [sh1 e q rc l (ks.drop (most - T.length).toNat)], out ++ ks.take (most - T.length).toNat)
  | 0, T, ks, out, h => by
    have : (most - (T.length : Int)).toNat = 0 := by omega
    rw [this]
    simp [tellF]
  | f + 1, T, ks, out, h => by
    unfold tellF
    rw [done_sh1]
    by_cases hm : most ≤ (T.length : Int)
    · rw [decide_eq_true hm, Bool.true_or, if_pos rfl]
      have : (most - (T.length : Int)).toNat = 0 := by omega
      rw [this]
      simp
    · rw [decide_eq_false hm, Bool.false_or]
      cases ks with
      | nil =>
        have hh : headsN [sh1 e q rc l []] [sh1 e q rc l []].length = [] := rfl
        rw [hh, if_pos rfl]
        simp
      | cons k ks =>
        have hh : headsN [sh1 e q rc l (k :: ks)] [sh1 e q rc l (k :: ks)].length = [(0, k)] := by
          show [] ++ headOf [sh1 e q rc l (k :: ks)] 0 = _
          unfold headOf
          rw [if_pos (show 0 < ([sh1 e q rc l (k :: ks)].getD 0 sm0).wn from by show 0 < (k :: ks).length; simp)]
          rfl
        have hz : (e && decide ((k :: ks).length = 0)) = false := by simp
        have hp : [sh1 e q rc l (k :: ks)].any (prM k) = false := by
          show (prM k (sh1 e q rc l (k :: ks)) || false) = false
          unfold prM
          rw [show decide ((sh1 e q rc l (k :: ks)).wn = 0) = false from decide_eq_false (by show (k :: ks).length ≠ 0; simp)]
          simp
        rw [hz, hh, first_one, hp, if_neg (by simp), if_neg (by simp), if_neg (by simp)]
        have hs : [sh1 e q rc l (k :: ks)].set 0 (popS ([sh1 e q rc l (k :: ks)].getD 0 sm0)) = [sh1 e q rc l ks] := by
          show [popS (sh1 e q rc l (k :: ks))] = _
          rw [pop_sh1]
        show tellF most f (T ++ [k]) ([sh1 e q rc l (k :: ks)].set 0 (popS ([sh1 e q rc l (k :: ks)].getD 0 sm0))) (out ++ [k]) = _
        rw [hs, tell_sh1 most e q rc l f (T ++ [k]) ks (out ++ [k]) (by simp; omega)]
        have e1 : (most - (T.length : Int)).toNat = (most - ((T ++ [k]).length : Int)).toNat + 1 := by simp; omega
        rw [e1, List.take_succ_cons, List.drop_succ_cons]
        simp
/-- strictly rising -/
def Ris (L : List KV) : Prop := ∀ i j, i < j → j < L.length → lessK (L.getD i k0) (L.getD j k0) = true
theorem lessK_trans {a b c : KV} (h : lessK a b = true) (k : lessK b c = true) : lessK a c = true := decide_eq_true (ordK_trans (of_decide_eq_true h) (of_decide_eq_true k))
/-- each from 0 up, and behind the one before -/
def upN (L : List KV) : Nat → Bool
  | 0 => true
  | j + 1 => upN L j && (!decide ((L.getD j k0).1 < 0) && (decide (j = 0) || lessK (L.getD (j - 1) k0) (L.getD j k0)))
theorem upN_at {L : List KV} : ∀ {n : Nat}, upN L n = true → ∀ j, j < n → 0 ≤ (L.getD j k0).1 ∧ (0 < j → lessK (L.getD (j - 1) k0) (L.getD j k0) = true)
  | 0, _, j, hj => by omega
  | n + 1, h, j, hj => by
    unfold upN at h
    simp only [Bool.and_eq_true] at h
    by_cases e : j = n
    · subst e
      obtain ⟨_, h2, h3⟩ := h
      refine ⟨by simpa using h2, fun hp => ?_⟩
      rw [decide_eq_false (by omega), Bool.false_or] at h3
      exact h3
    · exact upN_at h.1 j (by omega)
theorem upN_ris {L : List KV} (h : upN L L.length = true) : Ris L := by
  intro i j hij hj
  induction j with
  | zero => omega
  | succ j ih =>
    have h1 := (upN_at h (j + 1) hj).2 (by omega)
    rw [Nat.add_sub_cancel] at h1
    by_cases e : i = j
    · subst e; exact h1
    · exact lessK_trans (ih (by omega) (by omega)) h1
theorem getD_cut (L : List KV) (a m j : Nat) (hj : j < m) : ((L.drop a).take m).getD j k0 = L.getD (a + j) k0 := by
  rw [List.getD_eq_getElem?_getD, List.getElem?_take, if_pos hj, List.getElem?_drop, ← List.getD_eq_getElem?_getD]
theorem cut_len (L : List KV) (a m : Nat) (h : a + m ≤ L.length) : ((L.drop a).take m).length = m := by
  rw [List.length_take, List.length_drop]; omega
/-- a part of what rises fits -/
theorem fits_cut {L : List KV} {a m : Nat} {e : Bool} {q : Int} {rc : Bool} {l : KV} (hu : upN L L.length = true) (hm : m ≤ 5) (ha : a + m ≤ L.length) (hl : rc = true → ∀ j, a ≤ j → j < L.length → lessK l (L.getD j k0) = true) : fitsB (sh1 e q rc l []) ((L.drop a).take m) = true := by
  have hlen := cut_len L a m ha
  have ris := upN_ris hu
  unfold fitsB
  rw [hlen, decide_eq_true hm, Bool.true_and]
  have : ∀ n, n ≤ m → fitN (sh1 e q rc l []) ((L.drop a).take m) n = true := by
    intro n
    induction n with
    | zero => intro _; rfl
    | succ n ih =>
      intro hn
      unfold fitN
      rw [ih (by omega), Bool.true_and, getD_cut L a m n (by omega)]
      have h0 := (upN_at hu (a + n) (by omega)).1
      have b1 : badS (sh1 e q rc l []) (L.getD (a + n) k0) = false := by
        show (decide ((L.getD (a + n) k0).1 < 0) || (rc && !lessK l (L.getD (a + n) k0))) = false
        rw [decide_eq_false (by omega)]
        cases rc with
        | false => rfl
        | true => rw [hl rfl (a + n) (by omega) (by omega)]; rfl
      have b2 : stepB ((L.drop a).take m) n = false := by
        unfold stepB
        by_cases hz : n = 0
        · rw [decide_eq_false (by omega)]; rfl
        · rw [getD_cut L a m n (by omega), getD_cut L a m (n - 1) (by omega), ris (a + (n - 1)) (a + n) (by omega) (by omega)]
          simp
      rw [b1, b2]; rfl
  exact this m (Nat.le_refl _)
theorem HoldsK.cut {w : World} {a : Option Addr} {n c : Nat} {ks : List KV} (h : HoldsK w a n ks) (l m : Nat) (hm : l + m ≤ n) (hc : n ≤ c) : HoldsK w (if c = l then a else a.map (·.add (l * 2))) m ((ks.drop l).take m) := by
  have hl := h.1
  refine ⟨cut_len ks l m (by omega), fun h0 => ?_⟩
  obtain ⟨b, o, rfl, hc2⟩ := h.2 (by omega)
  rw [if_neg (by omega)]
  refine ⟨b, o + l * 2, by simp [Addr.add], fun i hi => ?_⟩
  rw [getD_cut ks l m i hi]
  have := hc2 (l + i) (by omega)
  rw [show o + l * 2 + i * 2 = o + (l + i) * 2 by omega]
  exact this
end Go.Proofs.Ytgghbgmeebihbaa
