/- messages in the document: the reader (num, text) -/
import Derived.Test.YthboiklcjpnhbaaMd7
import Derived.Test.YthboiklcjpnhbaaPr1
import Derived.Test.YthboiklcjpnhbaaMb6
namespace Go.Proofs.Ythboiklcjpnhbaa
open Go.RowKit
set_option linter.unusedVariables false
set_option maxRecDepth 20000
theorem dqNum_any (r : Nat) (a : Option Addr) (n cap : Nat) (bs : List Nat) (at_ : Nat) (bad : Bool) (s : Nat) (w : World) (m : RdM r a n cap bs at_ bad w) (hn : n ≤ 1048576) (hat : at_ ≤ n) (h1 : 1 ≤ s) (h4 : s ≤ 4) :
    Calls Try.prog 78 #[.pointer (some ⟨r, 0, none⟩), .int .i64 (s : Int)] w fun e w' => e = .returned (.int .i64 (numQ bs n at_ s : Nat)) ∧ RdM r a n cap bs (atQ n at_ s) (bad || !decide (at_ + s ≤ n)) w' ∧ Turn (fun k => k = r) w w' := by
  obtain ⟨c0, c1, c2, f, h, ne⟩ := m
  have M := Lib.hid (show RdM r a n cap bs at_ bad w from ⟨c0, c1, c2, f, h, ne⟩)
  have f1 := f 1
  have f2 := f 2
  have g0 := (World.cell?_of_block (w := w) (w' := w.drew) (a := ⟨r, 0, none⟩) rfl).trans c0
  have g1 := (World.cell?_of_block (w := w) (w' := w.drew) (a := ⟨r, 1, none⟩) rfl).trans c1
  have lr := lt_of_cell c0
  have STB := Lib.hid (show ∀ k, RdM r a n cap bs at_ true ((w.drewN k).setCell ⟨r, 2, none⟩ (.bool true)) ∧ Turn (fun q => q = r) w ((w.drewN k).setCell ⟨r, 2, none⟩ (.bool true)) from fun k => by
    have b := below_drewN w k
    have t : Turn (fun q => q = r) w ((w.drewN k).setCell ⟨r, 2, none⟩ (.bool true)) := (Turn.of_below b).trans (Turn.setCell rfl)
    exact ⟨⟨(cset_ne (by omega)).trans ((b.cell (p := ⟨r, 0, none⟩) lr).trans c0), (cset_ne (by omega)).trans ((b.cell (p := ⟨r, 1, none⟩) lr).trans c1), cset_at ((b.cell (p := ⟨r, 2, none⟩) lr).trans c2), fun i => fset_any.trans ((b.frozen (p := ⟨r, i, none⟩) lr).trans (f i)), holdsB_turn h t ne, ne⟩, t⟩)
  have STA := Lib.hid (show ∀ k (y : Nat), RdM r a n cap bs y bad ((w.drewN k).setCell ⟨r, 1, none⟩ (.int .i64 (y : Int))) ∧ Turn (fun q => q = r) w ((w.drewN k).setCell ⟨r, 1, none⟩ (.int .i64 (y : Int))) from fun k y => by
    have b := below_drewN w k
    have t : Turn (fun q => q = r) w ((w.drewN k).setCell ⟨r, 1, none⟩ (.int .i64 (y : Int))) := (Turn.of_below b).trans (Turn.setCell rfl)
    exact ⟨⟨(cset_ne (by omega)).trans ((b.cell (p := ⟨r, 0, none⟩) lr).trans c0), cset_at ((b.cell (p := ⟨r, 1, none⟩) lr).trans c1), (cset_ne (by omega)).trans ((b.cell (p := ⟨r, 2, none⟩) lr).trans c2), fun i => fset_any.trans ((b.frozen (p := ⟨r, i, none⟩) lr).trans (f i)), holdsB_turn h t ne, ne⟩, t⟩)
  by_cases hle : at_ + s ≤ n
  · have CN := Lib.hid (fun w' (hb : Below w.heap.size w w') => (show Calls Try.prog 49 #[.slice a n cap, .int .i64 (at_ : Int), .int .i64 (s : Int)] w' fun e w'' => e = .returned (.tuple #[.int .i64 (numN bs at_ s : Nat), .bool true]) ∧ w' = w'' from by
      have h2 := rnum_yes a n cap bs at_ s w' (h.below hb) (by omega) h1 (by omega) hle
      rw [wrap_small _ (by
        have h3 := numN_lt bs at_ s h.2 (by rw [h.len]; omega)
        have h5 : 256 ^ s ≤ 256 ^ 4 := Nat.pow_le_pow_right (by decide) h4
        have : (256 : Nat) ^ 4 = 4294967296 := by decide
        omega)] at h2
      exact h2))
    have EN : numQ bs n at_ s = numN bs at_ s := by unfold numQ; rw [if_pos hle]
    have EA : atQ n at_ s = at_ + s := by unfold atQ; rw [if_pos hle]
    have EB : (bad || !decide (at_ + s ≤ n)) = bad := by rw [decide_eq_true hle]; simp
    rw [EN, EA, EB]
    have e2 : (at_ : Int) + (s : Int) = ((at_ + s : Nat) : Int) := by omega
    obtain ⟨y, hy⟩ : ∃ y, at_ + s = y := ⟨_, rfl⟩
    rw [hy] at e2 ⊢
    clear hle h f hy EN EA EB
    go_enter Try.func78, Try.ntmps78
    go_wp2_with fail
    go_quiet ((go_at_call 49; exact Calls.quiet_of_same ((CN.out _ (by first | exact (Below.refl _ _).drew | exact below_drewN _ _)).mono (fun _ _ h => ⟨h.1, h.2.symm⟩))))
    go_wp2_with fail
    go_ret
    exact ⟨rfl, STA.out nq y⟩
  · have CN := Lib.hid (fun w' => (show Calls Try.prog 49 #[.slice a n cap, .int .i64 (at_ : Int), .int .i64 (s : Int)] w' fun e w'' => e = .returned (.tuple #[.int .i64 0, .bool false]) ∧ w' = w'' from
      rnum_no a n cap at_ s w' (by omega) (by omega)))
    have EN : numQ bs n at_ s = 0 := by unfold numQ; rw [if_neg hle]
    have EA : atQ n at_ s = at_ := by unfold atQ; rw [if_neg hle]
    have EB : (bad || !decide (at_ + s ≤ n)) = true := by rw [decide_eq_false hle]; simp
    rw [EN, EA, EB]
    clear hle h f EN EA EB
    go_enter Try.func78, Try.ntmps78
    go_wp2_with fail
    go_quiet ((go_at_call 49; exact Calls.quiet_of_same ((CN.out _).mono (fun _ _ h => ⟨h.1, h.2.symm⟩))))
    go_wp2_with fail
    go_ret
    exact ⟨rfl, STB.out nq⟩
/-- the document's reader: it reads on behind what was missing -/
def dNum (n s : Nat) (r : RS) : RS := ⟨atQ n r.k s, r.bad || !decide (r.k + s ≤ n)⟩
def dG (bs : List Nat) (n s : Nat) (r : RS) : Int := (numQ bs n r.k s : Nat)
def okD (bs : List Nat) (n : Nat) (k : Nat) : Bool := decide (k + 2 ≤ n) && decide (k + 2 + numN bs k 2 ≤ n)
def dTx (bs : List Nat) (n : Nat) (r : RS) : Tx := if okD bs n r.k then strN (textN bs r.k) else ⟨#[]⟩
def dTe (bs : List Nat) (n : Nat) (r : RS) : RS := if okD bs n r.k then ⟨r.k + 2 + numN bs r.k 2, r.bad⟩ else ⟨r.k, true⟩
theorem dNum_good {n s : Nat} {r : RS} (h : r.bad = false) : dNum n s r = rNum n s r := by
  obtain ⟨k, b⟩ := r
  simp only at h
  subst h
  unfold dNum rNum atQ atR okR
  by_cases h2 : k + s ≤ n <;> simp [h2]
theorem dG_good {bs : List Nat} {n s : Nat} {r : RS} (h : r.bad = false) : dG bs n s r = gNum bs n s r := by
  obtain ⟨k, b⟩ := r
  simp only at h
  subst h
  unfold dG gNum numQ numR okR
  by_cases h2 : k + s ≤ n <;> simp [h2]
theorem dTe_good {bs : List Nat} {n : Nat} {r : RS} (h : r.bad = false) : dTe bs n r = rText bs n r := by
  obtain ⟨k, b⟩ := r
  simp only at h
  subst h
  unfold dTe rText okD okT
  simp
theorem dTx_good {bs : List Nat} {n : Nat} {r : RS} (h : r.bad = false) : dTx bs n r = gText bs n r := by
  obtain ⟨k, b⟩ := r
  simp only at h
  subst h
  unfold dTx gText okD okT
  simp
theorem dNum_bad {n s : Nat} {r : RS} (h : r.bad = true) : (dNum n s r).bad = true := by unfold dNum; simp [h]
theorem dTe_bad {bs : List Nat} {n : Nat} {r : RS} (h : r.bad = true) : (dTe bs n r).bad = true := by unfold dTe; split <;> simp [h]
theorem dsNum (z : Nat) (zi : Int) (hz : zi = (z : Int)) (h1 : 1 ≤ z) (h4 : z ≤ 4) {r : Nat} {a : Option Addr} {n cap : Nat} {bs : List Nat} {s : RS} (w : World) (h : RdS r a n cap bs s w) :
    Calls Try.prog 78 #[.pointer (some ⟨r, 0, none⟩), .int .i64 zi] w (RdP r a n cap bs (dNum n z s) w (.int .i64 (dG bs n z s))) := by
  subst hz
  refine (dqNum_any r a n cap bs s.k s.bad z w h.m (by have := h.hn; omega) h.le h1 h4).mono ?_
  rintro e w' ⟨he, hm, ht⟩
  exact ⟨he, ⟨hm, atQ_le h.le, h.hn, h.nc⟩, ht⟩
set_option maxHeartbeats 3200000 in
theorem dsText {r : Nat} {a : Option Addr} {n cap : Nat} {bs : List Nat} {s : RS} (w : World) (hS : RdS r a n cap bs s w) :
    Calls Try.prog 79 #[.pointer (some ⟨r, 0, none⟩)] w (RdP r a n cap bs (dTe bs n s) w (.string (dTx bs n s))) := by
  obtain ⟨at_, bad⟩ := s
  obtain ⟨⟨c0, c1, c2, f, h, ne⟩, hat, hn, hnc⟩ := hS
  simp only at c1 c2 hat
  have f1 := f 1
  have f2 := f 2
  have g0 := (World.cell?_of_block (w := w) (w' := w.drew) (a := ⟨r, 0, none⟩) rfl).trans c0
  have g1 := (World.cell?_of_block (w := w) (w' := w.drew) (a := ⟨r, 1, none⟩) rfl).trans c1
  have lr := lt_of_cell c0
  have STB := Lib.hid (show ∀ k, RdS r a n cap bs ⟨at_, true⟩ ((w.drewN k).setCell ⟨r, 2, none⟩ (.bool true)) ∧ Turn (fun q => q = r) w ((w.drewN k).setCell ⟨r, 2, none⟩ (.bool true)) from fun k => by
    have b := below_drewN w k
    have t : Turn (fun q => q = r) w ((w.drewN k).setCell ⟨r, 2, none⟩ (.bool true)) := (Turn.of_below b).trans (Turn.setCell rfl)
    exact ⟨⟨⟨(cset_ne (by omega)).trans ((b.cell (p := ⟨r, 0, none⟩) lr).trans c0), (cset_ne (by omega)).trans ((b.cell (p := ⟨r, 1, none⟩) lr).trans c1), cset_at ((b.cell (p := ⟨r, 2, none⟩) lr).trans c2), fun i => fset_any.trans ((b.frozen (p := ⟨r, i, none⟩) lr).trans (f i)), holdsB_turn h t ne, ne⟩, hat, hn, hnc⟩, t⟩)
  have STA := Lib.hid (show ∀ k (y : Nat), y ≤ n → RdS r a n cap bs ⟨y, bad⟩ ((w.drewN k).setCell ⟨r, 1, none⟩ (.int .i64 (y : Int))) ∧ Turn (fun q => q = r) w ((w.drewN k).setCell ⟨r, 1, none⟩ (.int .i64 (y : Int))) from fun k y hy => by
    have b := below_drewN w k
    have t : Turn (fun q => q = r) w ((w.drewN k).setCell ⟨r, 1, none⟩ (.int .i64 (y : Int))) := (Turn.of_below b).trans (Turn.setCell rfl)
    exact ⟨⟨⟨(cset_ne (by omega)).trans ((b.cell (p := ⟨r, 0, none⟩) lr).trans c0), cset_at ((b.cell (p := ⟨r, 1, none⟩) lr).trans c1), (cset_ne (by omega)).trans ((b.cell (p := ⟨r, 2, none⟩) lr).trans c2), fun i => fset_any.trans ((b.frozen (p := ⟨r, i, none⟩) lr).trans (f i)), holdsB_turn h t ne, ne⟩, hy, hn, hnc⟩, t⟩)
  by_cases hok : at_ + 2 ≤ n ∧ at_ + 2 + numN bs at_ 2 ≤ n
  · obtain ⟨hk1, hk2⟩ := hok
    have CN := Lib.hid (fun w' (hb : Below w.heap.size w w') => rtext_yes a n cap bs at_ w' (h.below hb) (by omega) hnc hk2)
    obtain ⟨y, hy⟩ : ∃ y, at_ + 2 + numN bs at_ 2 = y := ⟨_, rfl⟩
    obtain ⟨sv, hsv⟩ : ∃ v, strN (textN bs at_) = v := ⟨_, rfl⟩
    rw [hy, hsv] at CN
    rw [hy] at hk2
    have e1 : okD bs n at_ = true := by unfold okD; simp [hk1, hy, hk2]
    have EN : dTx bs n ⟨at_, bad⟩ = sv := by unfold dTx; rw [e1, if_pos rfl, hsv]
    have EA : dTe bs n ⟨at_, bad⟩ = ⟨y, bad⟩ := by unfold dTe; rw [e1, if_pos rfl, hy]
    rw [EN, EA]
    have YL := Lib.hid hk2
    clear hk1 hk2 h f hy hsv e1 EN EA
    go_enter Try.func79, Try.ntmps79
    go_wp2_with fail
    go_quiet ((go_at_call 99; exact Calls.quiet_of_same ((CN.out _ (by first | exact (Below.refl _ _).drew | exact below_drewN _ _)).mono (fun _ _ h => ⟨h.1, h.2.symm⟩))))
    go_wp2_with fail
    go_ret
    exact ⟨rfl, STA.out nq y YL.out⟩
  · have CN := Lib.hid (fun w' (hb : Below w.heap.size w w') => (show Calls Try.prog 99 #[.slice a n cap, .int .i64 (at_ : Int)] w' fun e w'' => e = .returned (.tuple #[.string ⟨#[]⟩, .int .i64 0, .bool false]) ∧ w' = w'' from by
      by_cases hk : at_ + 2 ≤ n
      · exact rtext_far a n cap bs at_ w' (h.below hb) (by omega) hk (by omega)
      · exact rtext_none a n cap at_ w' (by omega) (by omega) (by omega)))
    have e1 : okD bs n at_ = false := by
      unfold okD
      by_cases hk : at_ + 2 ≤ n
      · have : ¬ (at_ + 2 + numN bs at_ 2 ≤ n) := fun h => hok ⟨hk, h⟩
        simp [this]
      · simp [hk]
    have EN : dTx bs n ⟨at_, bad⟩ = ⟨#[]⟩ := by unfold dTx; rw [e1]; rfl
    have EA : dTe bs n ⟨at_, bad⟩ = ⟨at_, true⟩ := by unfold dTe; rw [e1]; rfl
    rw [EN, EA]
    clear hok h f e1 EN EA
    go_enter Try.func79, Try.ntmps79
    go_wp2_with fail
    go_quiet ((go_at_call 99; exact Calls.quiet_of_same ((CN.out _ (by first | exact (Below.refl _ _).drew | exact below_drewN _ _)).mono (fun _ _ h => ⟨h.1, h.2.symm⟩))))
    go_wp2_with fail
    go_ret
    exact ⟨rfl, STB.out nq⟩
end Go.Proofs.Ythboiklcjpnhbaa
