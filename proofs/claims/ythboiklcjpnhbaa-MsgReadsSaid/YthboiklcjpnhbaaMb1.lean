/- msg: reading fields: numbers, texts, flags, items -/
import Derived.Test.YthboiklcjpnhbaaMa6
import Derived.Test.YthboiklcjpnhbaaPk2
import Derived.Test.YthboiklcjpnhbaaCd6
import Derived.Deep.AppendLies
namespace Go.Proofs.Ythboiklcjpnhbaa
open Go.RowKit
set_option linter.unusedVariables false
set_option maxRecDepth 20000
/-- how far a reader is, and whether something was missing -/
structure RS where
  k : Nat
  bad : Bool
def rNum (n s : Nat) (r : RS) : RS := ⟨atR n r.k s r.bad, !okR n r.k s r.bad⟩
def gNum (bs : List Nat) (n s : Nat) (r : RS) : Int := (numR bs n r.k s r.bad : Nat)
def okT (bs : List Nat) (n : Nat) (r : RS) : Bool := !r.bad && (decide (r.k + 2 ≤ n) && decide (r.k + 2 + numN bs r.k 2 ≤ n))
def gText (bs : List Nat) (n : Nat) (r : RS) : Tx := if okT bs n r then strN (textN bs r.k) else ⟨#[]⟩
def rText (bs : List Nat) (n : Nat) (r : RS) : RS := if okT bs n r then ⟨r.k + 2 + numN bs r.k 2, false⟩ else ⟨r.k, true⟩
theorem rNum_le {n s : Nat} {r : RS} (h : r.k ≤ n) : (rNum n s r).k ≤ n := by
  unfold rNum atR okR
  simp only
  split
  · rename_i h2; simp only [Bool.and_eq_true, decide_eq_true_eq] at h2; exact h2.2
  · exact h
theorem rText_le {bs : List Nat} {n : Nat} {r : RS} (h : r.k ≤ n) : (rText bs n r).k ≤ n := by
  unfold rText
  split
  · rename_i h2; unfold okT at h2; simp only [Bool.and_eq_true, decide_eq_true_eq] at h2; exact h2.2.2
  · exact h
structure RdS (r : Nat) (a : Option Addr) (n cap : Nat) (bs : List Nat) (s : RS) (w : World) : Prop where
  m : RdM r a n cap bs s.k s.bad w
  le : s.k ≤ n
  hn : n ≤ 100000
  nc : n ≤ cap
theorem RdS.below {r : Nat} {a : Option Addr} {n cap : Nat} {bs : List Nat} {s : RS} {w w' : World} (h : RdS r a n cap bs s w) (hb : Below w.heap.size w w') : RdS r a n cap bs s w' :=
  ⟨h.m.turn (S := fun _ => False) (Turn.of_below hb) (fun h => h) (fun _ _ _ h => h), h.le, h.hn, h.nc⟩
def RdP (r : Nat) (a : Option Addr) (n cap : Nat) (bs : List Nat) (s : RS) (w : World) (V : Value) (e : Ending) (w' : World) : Prop := e = .returned V ∧ RdS r a n cap bs s w' ∧ Turn (fun k => k = r) w w'
theorem rsNum (z : Nat) (zi : Int) (hz : zi = (z : Int)) (h1 : 1 ≤ z) (h4 : z ≤ 4) {r : Nat} {a : Option Addr} {n cap : Nat} {bs : List Nat} {s : RS} (w : World) (h : RdS r a n cap bs s w) :
    Calls Try.prog 75 #[.pointer (some ⟨r, 0, none⟩), .int .i64 zi] w (RdP r a n cap bs (rNum n z s) w (.int .i64 (gNum bs n z s))) := by
  subst hz
  refine (rdNum_any r a n cap bs s.k s.bad z w h.m (by have := h.hn; omega) h.le h1 h4).mono ?_
  rintro e w' ⟨he, hm, ht⟩
  exact ⟨he, ⟨hm, rNum_le h.le, h.hn, h.nc⟩, ht⟩
set_option maxHeartbeats 3200000 in
theorem rsText {r : Nat} {a : Option Addr} {n cap : Nat} {bs : List Nat} {s : RS} (w : World) (hS : RdS r a n cap bs s w) :
    Calls Try.prog 95 #[.pointer (some ⟨r, 0, none⟩)] w (RdP r a n cap bs (rText bs n s) w (.string (gText bs n s))) := by
  obtain ⟨at_, bad⟩ := s
  obtain ⟨⟨c0, c1, c2, f, h, ne⟩, hat, hn, hnc⟩ := hS
  simp only at c1 c2 hat
  have f1 := f 1
  have f2 := f 2
  have g0 := (World.cell?_of_block (w := w) (w' := w.drew) (a := ⟨r, 0, none⟩) rfl).trans c0
  have g1 := (World.cell?_of_block (w := w) (w' := w.drew) (a := ⟨r, 1, none⟩) rfl).trans c1
  have lr := lt_of_cell c0
  have STB := Lib.hid (show ∀ k, RdS r a n cap bs ⟨at_, true⟩ ((w.drewN k).setCell ⟨r, 2, none⟩ (.bool true)) ∧ Turn (fun q => q = r) w ((w.drewN k).setCell ⟨r, 2, none⟩ (.bool true)) from fun k => by
    have b := below_drewN w k
    have t : Turn (fun q => q = r) w ((w.drewN k).setCell ⟨r, 2, none⟩ (.bool true)) := (Turn.of_below b).trans (Turn.setCell rfl)
    exact ⟨⟨⟨(cset_ne (by omega)).trans ((b.cell (p := ⟨r, 0, none⟩) lr).trans c0), (cset_ne (by omega)).trans ((b.cell (p := ⟨r, 1, none⟩) lr).trans c1), cset_at ((b.cell (p := ⟨r, 2, none⟩) lr).trans c2), fun i => fset_any.trans ((b.frozen (p := ⟨r, i, none⟩) lr).trans (f i)), holdsB_turn h t ne, ne⟩, hat, hn, hnc⟩, t⟩)
  have STA := Lib.hid (show ∀ k (y : Nat), y ≤ n → RdS r a n cap bs ⟨y, bad⟩ ((w.drewN k).setCell ⟨r, 1, none⟩ (.int .i64 (y : Int))) ∧ Turn (fun q => q = r) w ((w.drewN k).setCell ⟨r, 1, none⟩ (.int .i64 (y : Int))) from fun k y hy => by
    have b := below_drewN w k
    have t : Turn (fun q => q = r) w ((w.drewN k).setCell ⟨r, 1, none⟩ (.int .i64 (y : Int))) := (Turn.of_below b).trans (Turn.setCell rfl)
    exact ⟨⟨⟨(cset_ne (by omega)).trans ((b.cell (p := ⟨r, 0, none⟩) lr).trans c0), cset_at ((b.cell (p := ⟨r, 1, none⟩) lr).trans c1), (cset_ne (by omega)).trans ((b.cell (p := ⟨r, 2, none⟩) lr).trans c2), fun i => fset_any.trans ((b.frozen (p := ⟨r, i, none⟩) lr).trans (f i)), holdsB_turn h t ne, ne⟩, hy, hn, hnc⟩, t⟩)
  by_cases hok : at_ + 2 ≤ n ∧ at_ + 2 + numN bs at_ 2 ≤ n
  · obtain ⟨hk1, hk2⟩ := hok
    have CN := Lib.hid (fun w' (hb : Below w.heap.size w w') => text_yes a n cap bs at_ w' (h.below hb) (by omega) hnc hk2)
    obtain ⟨y, hy⟩ : ∃ y, at_ + 2 + numN bs at_ 2 = y := ⟨_, rfl⟩
    obtain ⟨sv, hsv⟩ : ∃ v, strN (textN bs at_) = v := ⟨_, rfl⟩
    rw [hy, hsv] at CN
    rw [hy] at hk2
    cases bad with
    | false =>
      have e1 : okT bs n ⟨at_, false⟩ = true := by unfold okT; simp [hk1, hy, hk2]
      have EN : gText bs n ⟨at_, false⟩ = sv := by unfold gText; rw [e1, if_pos rfl, hsv]
      have EA : rText bs n ⟨at_, false⟩ = ⟨y, false⟩ := by unfold rText; rw [e1, if_pos rfl, hy]
      rw [EN, EA]
      have YL := Lib.hid hk2
      clear hk1 hk2 h f hy hsv e1 EN EA
      go_enter Try.func95, Try.ntmps95
      go_wp2_with fail
      go_quiet ((go_at_call 104; exact Calls.quiet_of_same ((CN.out _ (by first | exact (Below.refl _ _).drew | exact below_drewN _ _)).mono (fun _ _ h => ⟨h.1, h.2.symm⟩))))
      go_wp2_with fail
      go_ret
      exact ⟨rfl, STA.out nq y YL.out⟩
    | true =>
      have e1 : okT bs n ⟨at_, true⟩ = false := rfl
      have EN : gText bs n ⟨at_, true⟩ = ⟨#[]⟩ := rfl
      have EA : rText bs n ⟨at_, true⟩ = ⟨at_, true⟩ := rfl
      rw [EN, EA]
      clear hk1 hk2 h f hy hsv e1 EN EA
      go_enter Try.func95, Try.ntmps95
      go_wp2_with fail
      go_quiet ((go_at_call 104; exact Calls.quiet_of_same ((CN.out _ (by first | exact (Below.refl _ _).drew | exact below_drewN _ _)).mono (fun _ _ h => ⟨h.1, h.2.symm⟩))))
      go_wp2_with fail
      go_ret
      exact ⟨rfl, STB.out nq⟩
  · have CN := Lib.hid (fun w' (hb : Below w.heap.size w w') => (show Calls Try.prog 104 #[.slice a n cap, .int .i64 (at_ : Int)] w' fun e w'' => e = .returned (.tuple #[.string ⟨#[]⟩, .int .i64 0, .bool false]) ∧ w' = w'' from by
      by_cases hk : at_ + 2 ≤ n
      · exact text_far a n cap bs at_ w' (h.below hb) (by omega) hk (by omega)
      · exact text_none a n cap at_ w' (by omega) (by omega) (by omega)))
    have e1 : okT bs n ⟨at_, bad⟩ = false := by
      unfold okT
      by_cases hk : at_ + 2 ≤ n
      · have : ¬ (at_ + 2 + numN bs at_ 2 ≤ n) := fun h => hok ⟨hk, h⟩
        simp [this]
      · simp [hk]
    have EN : gText bs n ⟨at_, bad⟩ = ⟨#[]⟩ := by unfold gText; rw [e1]; rfl
    have EA : rText bs n ⟨at_, bad⟩ = ⟨at_, true⟩ := by unfold rText; rw [e1]; rfl
    rw [EN, EA]
    clear hok h f e1 EN EA
    cases bad
    all_goals
      go_enter Try.func95, Try.ntmps95
      go_wp2_with fail
      go_quiet ((go_at_call 104; exact Calls.quiet_of_same ((CN.out _ (by first | exact (Below.refl _ _).drew | exact below_drewN _ _)).mono (fun _ _ h => ⟨h.1, h.2.symm⟩))))
      go_wp2_with fail
      go_ret
      exact ⟨rfl, STB.out nq⟩
def gFlag (bs : List Nat) (n : Nat) (s : RS) : Bool := gNum bs n 1 s == 1
theorem rsFlag {r : Nat} {a : Option Addr} {n cap : Nat} {bs : List Nat} {s : RS} (w : World) (h : RdS r a n cap bs s w) :
    Calls Try.prog 96 #[.pointer (some ⟨r, 0, none⟩)] w (RdP r a n cap bs (rNum n 1 s) w (.bool (gFlag bs n s))) := by
  have C := Lib.hid (rsNum 1 1 rfl (by omega) (by omega) w h)
  obtain ⟨v, hv⟩ : ∃ v, gNum bs n 1 s = v := ⟨_, rfl⟩
  have HV := Lib.hid (show gFlag bs n s = (v == 1) from by unfold gFlag; rw [hv])
  rw [hv] at C
  clear h hv
  go_enter Try.func96, Try.ntmps96
  go_wp2_with fail
  refine C.out.mono ?_
  rintro e w' ⟨rfl, hm, ht⟩
  have M := Lib.hid hm; have T := Lib.hid ht
  clear hm ht C
  go_wp2_with fail
  go_ret
  exact ⟨by rw [HV.out]; rfl, M.out, T.out⟩
def gItem (bs : List Nat) (n : Nat) (s : RS) : KV := (gNum bs n 1 s, gText bs n (rNum n 1 s))
def rItem (bs : List Nat) (n : Nat) (s : RS) : RS := rText bs n (rNum n 1 s)
theorem RdS.fresh {r p : Nat} {a : Option Addr} {n cap : Nat} {bs : List Nat} {s : RS} {w w' : World} (h : RdS r a n cap bs s w) (t : Turn (fun k => k = p) w w') (hr : r ≠ p) (ha : 0 < n → ∀ q o, a = some ⟨q, o, none⟩ → q ≠ p) : RdS r a n cap bs s w' := by
  have lr := lt_of_cell h.m.c0
  refine ⟨⟨(t.cell lr hr).trans h.m.c0, (t.cell lr hr).trans h.m.c1, (t.cell lr hr).trans h.m.c2, fun i => (t.frozen lr hr).trans (h.m.f i), ?_, h.m.ne⟩, h.le, h.hn, h.nc⟩
  rcases Nat.eq_zero_or_pos n with h0 | h0
  · subst h0
    have := List.length_eq_zero_iff.1 h.m.h.len
    subst this
    exact holdsB_nil _ _
  · exact holdsB_turn h.m.h t (fun q o e => ha h0 q o e)
theorem RdS.lt {r : Nat} {a : Option Addr} {n cap : Nat} {bs : List Nat} {s : RS} {w : World} (h : RdS r a n cap bs s w) (h0 : 0 < n) : ∀ q o, a = some ⟨q, o, none⟩ → q < w.heap.size := fun q o e => by
  obtain ⟨q2, o2, e2, hc⟩ := h.m.h.at h0
  rw [e] at e2
  injection e2 with e2; injection e2 with e2 e3; subst e2; subst e3
  exact lt_of_cell (hc 0 h0)
theorem rsItem {r : Nat} {a : Option Addr} {n cap : Nat} {bs : List Nat} {s : RS} (w : World) (h : RdS r a n cap bs s w) :
    Calls Try.prog 97 #[.pointer (some ⟨r, 0, none⟩)] w (RdP r a n cap bs (rItem bs n s) w (.agg #[.int .i64 (gItem bs n s).1, .string (gItem bs n s).2])) := by
  have BX := Lib.hid (below_one w (.cells #[.int .i64 0, .string ⟨#[]⟩] 27))
  obtain ⟨p, hp⟩ : ∃ p, w.heap.size = p := ⟨_, rfl⟩
  have XB := box2m w (.int .i64 0) (.string ⟨#[]⟩) 27
  have XF := fun i => frozen_alloc (w := w) (cs := #[.int .i64 0, .string ⟨#[]⟩]) (T := 27) (o := i) rfl
  obtain ⟨w1, hw1⟩ : ∃ w1, w.alloc (.cells #[.int .i64 0, .string ⟨#[]⟩] 27) = w1 := ⟨_, rfl⟩
  have lr := Lib.hid (show r < p from by rw [← hp]; exact lt_of_cell h.m.c0)
  rw [hw1] at BX XB XF
  rw [hp] at XB XF
  have PL := Lib.hid (lt_of_cell XB.1)
  have C1 := Lib.hid (rsNum 1 1 rfl (by omega) (by omega) w1 (h.below BX.out))
  have C2 := Lib.hid (fun w' (h' : RdS r a n cap bs (rNum n 1 s) w') => rsText w' h')
  have X0 := Lib.hid XB
  have XF0 := Lib.hid XF
  obtain ⟨v, hv⟩ : ∃ v, gNum bs n 1 s = v := ⟨_, rfl⟩
  obtain ⟨t, ht⟩ : ∃ t, gText bs n (rNum n 1 s) = t := ⟨_, rfl⟩
  have HV := Lib.hid (show gItem bs n s = (v, t) from by unfold gItem; rw [hv, ht])
  rw [hv] at C1
  rw [ht] at C2
  rw [HV.out]
  have TW := Lib.hid (show Turn (fun k => k = r) w w1 from Turn.of_below BX.out)
  have HP := Lib.hid hp
  have AL := Lib.hid (show 0 < n → ∀ q o, a = some ⟨q, o, none⟩ → q < p from hp ▸ fun h0 => h.lt h0)
  clear h hv ht XB XF
  go_enter Try.func97, Try.ntmps97
  go_upto_region 1 with fail
  try rw [hw1]
  try simp only [hp]
  clear hw1 hp
  go_wp2_with fail
  with_reducible refine C1.out.mono ?_
  rintro e w2 ⟨rfl, hm, ht⟩
  have M2 := Lib.hid hm; have T2 := Lib.hid ht
  have Y2 := Lib.hid (And.intro ((ht.cell PL.out (fun e => by have := lr.out; omega)).trans X0.out.1) ((ht.cell PL.out (fun e => by have := lr.out; omega)).trans X0.out.2))
  have C3 := Lib.hid (C2.out w2 hm)
  have P2 := Lib.hid (Nat.lt_of_lt_of_le PL.out ht.size)
  have F2 := Lib.hid (fun i => (ht.frozen (o := i) PL.out (fun e => by have := lr.out; omega)).trans (XF0.out i))
  clear hm ht C1 C2 X0 XF0
  go_wp2_with fail
  with_reducible refine C3.out.mono ?_
  rintro e w3 ⟨rfl, hm, ht⟩
  have y0 := (ht.cell P2.out (fun e => by have := lr.out; omega)).trans Y2.out.1
  have y1 := (ht.cell P2.out (fun e => by have := lr.out; omega)).trans Y2.out.2
  have f0 := (ht.frozen (o := 0) P2.out (fun e => by have := lr.out; omega)).trans (F2.out 0)
  have f1 := (ht.frozen (o := 1) P2.out (fun e => by have := lr.out; omega)).trans (F2.out 1)
  have P3 := Lib.hid (Nat.lt_of_lt_of_le P2.out ht.size)
  have TT := Lib.hid (show Turn (fun k => k = r) w ((w3.setCell ⟨p, 0, none⟩ (.int .i64 v)).setCell ⟨p, 1, none⟩ (.string t)) from by
    have h1 := (TW.out.trans T2.out).trans ht
    refine ⟨h1.os, h1.tape, h1.output, by have := h1.size; simpa [World.setCell] using this, fun k hk hn => ?_⟩
    have e1 : k ≠ p := fun e => by have := HP.out; omega
    rw [Below.heap_setCell _ _ _ _ e1, Below.heap_setCell _ _ _ _ e1]
    exact h1.block k hk hn)
  have MM := Lib.hid (show RdS r a n cap bs (rItem bs n s) ((w3.setCell ⟨p, 0, none⟩ (.int .i64 v)).setCell ⟨p, 1, none⟩ (.string t)) from (show RdS r a n cap bs (rItem bs n s) w3 from hm).fresh (p := p) ((Turn.setCell (F := fun k => k = p) rfl).trans (Turn.setCell (F := fun k => k = p) rfl)) (fun e => by have := lr.out; omega) (fun h0 q o e => by have := AL.out h0 q o e; omega))
  have g0 := cset_at (v := .int .i64 v) y0
  have g1 := cset_at (v := .string t) ((cset_ne (w := w3) (b := p) (o := 0) (p := 1) (v := .int .i64 v) (by omega)).trans y1)
  clear hm ht C3
  go_wp2_with fail
  exact bodyPost_ret (v := .agg #[.int .i64 v, .string t]) (by simp [results, go_sem, g0, g1]) rfl ⟨rfl, MM.out, TT.out⟩
def rItems (bs : List Nat) (n : Nat) : Nat → RS → RS
  | 0, s => s
  | k + 1, s => rItem bs n (rItems bs n k s)
def gItems (bs : List Nat) (n : Nat) : Nat → RS → List KV
  | 0, _ => []
  | k + 1, s => gItems bs n k s ++ [gItem bs n (rItems bs n k s)]
theorem gItems_len (bs : List Nat) (n : Nat) (s : RS) : ∀ k, (gItems bs n k s).length = k
  | 0 => rfl
  | k + 1 => by simp [gItems, gItems_len bs n s k]
theorem RdS.old {r B : Nat} {a : Option Addr} {n cap : Nat} {bs : List Nat} {s : RS} {w w' : World} (h : RdS r a n cap bs s w) (t : Below B w w') (hB : B ≤ w.heap.size) (hr : r < B) (ha : 0 < n → ∀ q o, a = some ⟨q, o, none⟩ → q < B) : RdS r a n cap bs s w' := by
  have T : Turn (fun k => B ≤ k) w w' := ⟨t.os, t.tape, t.output, t.size, fun k _ hn => t.block k (by omega)⟩
  have lr := lt_of_cell h.m.c0
  refine ⟨⟨(T.cell lr (by omega)).trans h.m.c0, (T.cell lr (by omega)).trans h.m.c1, (T.cell lr (by omega)).trans h.m.c2, fun i => (T.frozen lr (by omega)).trans (h.m.f i), ?_, h.m.ne⟩, h.le, h.hn, h.nc⟩
  rcases Nat.eq_zero_or_pos n with h0 | h0
  · subst h0
    have := List.length_eq_zero_iff.1 h.m.h.len
    subst this
    exact holdsB_nil _ _
  · exact holdsB_turn h.m.h T (fun q o e hq => by have := ha h0 q o e; omega)
theorem two_newM {w : World} {B : Nat} {u v : Value} {t : TypeId} (hB : B = w.heap.size) : ∀ ad, some (⟨B, 0, none⟩ : Addr) = some ad → ∀ j x, [u, v][j]? = some x → (w.alloc (.cells #[u, v] t)).cell? (ad.add j) = some x := by
  subst hB
  intro ad e j x hx
  injection e with e; subst e
  match j, hx with
  | 0, hx => simp only [List.getElem?_cons_zero, Option.some.injEq] at hx; subst hx; exact (box2m w u v t).1
  | 1, hx => simp only [List.getElem?_cons_succ, List.getElem?_cons_zero, Option.some.injEq] at hx; subst hx; exact (box2m w u v t).2
  | k + 2, hx => simp at hx
def ItsP (r : Nat) (a : Option Addr) (n cap : Nat) (bs : List Nat) (s : RS) (w : World) (ks : List KV) (m : Nat) (e : Ending) (w' : World) : Prop :=
  ∃ ia ic, e = .returned (.slice ia m ic) ∧ HoldsK w' ia m ks ∧ (ia = none → m = 0 ∧ ic = 0) ∧ m ≤ ic ∧ w'.ownsRow w.heap.size 27 2 (.slice ia m ic) m (keysV ks) ∧ RdS r a n cap bs s w' ∧ Turn (fun k => k = r) w w'
set_option maxHeartbeats 3200000 in
theorem rsItems (m : Nat) {r : Nat} {a : Option Addr} {n cap : Nat} {bs : List Nat} {s : RS} (w : World) (h : RdS r a n cap bs s w) (hm : gNum bs n 1 s = (m : Int)) :
    Calls Try.prog 98 #[.pointer (some ⟨r, 0, none⟩)] w (ItsP r a n cap bs (rItems bs n m (rNum n 1 s)) w (gItems bs n m (rNum n 1 s)) m) := by
  obtain ⟨i0, hi, hz0, hz1, hz2⟩ := info_parts prI_info
  have m256 : m < 256 := by
    have h1 := numR_lt bs n s.k 1 s.bad h.m.h.2 h.m.h.len
    unfold gNum at hm
    have : (256 : Nat) ^ 1 = 256 := by decide
    omega
  have C1 := Lib.hid (rsNum 1 1 rfl (by omega) (by omega) w h)
  rw [hm] at C1
  obtain ⟨s1, hs1⟩ : ∃ s1, rNum n 1 s = s1 := ⟨_, rfl⟩
  rw [hs1] at C1 ⊢
  have LR := Lib.hid (lt_of_cell h.m.c0)
  have AL := Lib.hid (show 0 < n → ∀ q o, a = some ⟨q, o, none⟩ → q < w.heap.size from fun h0 => h.lt h0)
  clear h hm hs1
  go_enter Try.func98, Try.ntmps98
  go_wp2_with fail
  with_reducible refine C1.out.mono ?_
  rintro e w1 ⟨rfl, hM, hT⟩
  have M1 := Lib.hid hM; have T1 := Lib.hid hT
  clear hM hT C1
  go_wp2_with fail
  go_loopw [3, 6] (fun iv cv wr => ∃ (j : Nat) (ia : Option Addr) (ic : Nat), j ≤ m ∧ iv = .slice ia j ic ∧ cv = .int .i64 (j : Int) ∧ Hid (wr.ownsRow w.heap.size 27 2 (.slice ia j ic) j (keysV (gItems bs n j s1))) ∧ Hid (RdS r a n cap bs (rItems bs n j s1) wr) ∧ Hid (Turn (fun k => k = r) w wr) ∧ Hid (ia = none → j = 0 ∧ ic = 0)) (fun _ cv _ => m - (intOf cv).toNat)
  case atStart => exact ⟨0, none, 0, by omega, rfl, rfl, Lib.hid (World.ownsRow_nil _ _ _ _), M1, T1, Lib.hid (fun _ => ⟨rfl, rfl⟩)⟩
  case round =>
    clear M1 T1
    obtain ⟨j, ia, ic, hj, rfl, rfl, hO, hM, hT, hN⟩ := hrel
    rename World => wr
    by_cases hlt : j < m
    · have CI := Lib.hid (rsItem wr hM.out)
      obtain ⟨kv, hkv⟩ : ∃ kv, gItem bs n (rItems bs n j s1) = kv := ⟨_, rfl⟩
      rw [hkv] at CI
      obtain ⟨v1, v2⟩ := kv
      have GE := Lib.hid (show keysV (gItems bs n (j + 1) s1) = keysV (gItems bs n j s1) ++ [.int .i64 v1, .string v2] from by
        show keysV (gItems bs n j s1 ++ [gItem bs n (rItems bs n j s1)]) = _
        rw [keysV_app, hkv]; rfl)
      clear hkv
      go_wp2_with fail
      with_reducible refine CI.out.mono ?_
      rintro e w2 ⟨rfl, hM2, hT2⟩
      have M2 := Lib.hid hM2
      have T2 := Lib.hid (hT.out.trans hT2)
      have O2 := Lib.hid (show w2.ownsRow w.heap.size 27 2 (.slice ia j ic) j (keysV (gItems bs n j s1)) from hO.out.kept ⟨hT2.os, hT2.tape, hT2.output, hT2.size, fun k hk hn => hT2.block k hk (fun e => hn (by rw [e]))⟩ (row := some r) (by
        rcases h : (Value.slice ia j ic).ownBlock with _ | g
        · exact Or.inl rfl
        · right; intro e; injection e with e; have := (hO.out.lt g h).1; have := LR.out; omega))
      have Z2 := Lib.hid (show w.heap.size ≤ w2.heap.size from T2.out.size)
      clear hM2 hT2 CI hO hM hT
      go_wp2_with (at_builtin; refine wpList_append_any rfl (.tmp 8) (.tmp 11) 30 rfl w.heap.size 27 i0 _ 2 24 Try.underlying30 hi hz0 hz1 hz2 rfl (by decide) _ j _ rfl (O2.out.alloc _) _ 1 1 [.int .i64 v1, .string v2] rfl (fun e => by cases e) rfl (two_newM rfl) (by simp [Value.oneCell']) (by unfold maxLen; omega) (by omega) (by have := Z2.out; simp; omega) ?_; intro a3 c3 w3 hown3 hb3 hnil3)
      have O3 := Lib.hid (show w3.ownsRow w.heap.size 27 2 (.slice a3 (j + 1) c3) (j + 1) (keysV (gItems bs n (j + 1) s1)) from by rw [GE.out]; exact hown3)
      have B3 := Lib.hid (show Below w.heap.size w2 w3 from ((below_one w2 _).mono Z2.out).trans hb3)
      have M3 := Lib.hid (show RdS r a n cap bs (rItems bs n (j + 1) s1) w3 from M2.out.old B3.out Z2.out LR.out AL.out)
      have T3 := Lib.hid (show Turn (fun k => k = r) w w3 from T2.out.trans' (G := fun k => w.heap.size ≤ k) ⟨B3.out.os, B3.out.tape, B3.out.output, B3.out.size, fun k _ hn => B3.out.block k (by omega)⟩ (fun i hi => Or.inr hi))
      have N3 := Lib.hid hnil3
      clear hown3 hb3 hnil3
      go_wp2_with fail
      go_roundw
      case rel => exact ⟨j + 1, a3, c3, by omega, rfl, by go_num, O3, M3, T3, Lib.hid (fun e => N3.out e)⟩
      case measure => simp [intOf] <;> omega
    · obtain rfl : j = m := by omega
      have FF := Lib.hid (show ItsP r a n cap bs (rItems bs n j s1) w (gItems bs n j s1) j (.returned (.slice ia j ic)) wr from ⟨ia, ic, rfl, HoldsK.own hO.out, hN.out, (owns_none hO.out).2, hO.out, hM.out, hT.out⟩)
      clear hO hM hT hN
      go_wp2_with fail
      go_ret
      exact FF.out
end Go.Proofs.Ythboiklcjpnhbaa
