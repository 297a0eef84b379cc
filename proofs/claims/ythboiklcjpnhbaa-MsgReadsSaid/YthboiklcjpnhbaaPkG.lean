/- texts joined -/
import Derived.Test.YthboiklcjpnhbaaPkB
import Derived.Test.YthboiklcjpnhbaaPkE
import Derived.Test.YthboiklcjpnhbaaPkF
import Derived.Test.YthboiklcjpnhbaaPkC
import Derived.Laws.CopyOwn
import Derived.Deep.MidRow
/- pack: the document's reader, and Opened -/
namespace Go.Proofs.Ythboiklcjpnhbaa
open Go.RowKit
set_option linter.unusedVariables false
set_option maxRecDepth 20000
def numQ (bs : List Nat) (n at_ s : Nat) : Nat := if at_ + s ≤ n then numN bs at_ s else 0
def atQ (n at_ s : Nat) : Nat := if at_ + s ≤ n then at_ + s else at_
theorem atQ_le {n at_ s : Nat} (h : at_ ≤ n) : atQ n at_ s ≤ n := by
  unfold atQ
  split <;> omega
theorem numQ_lt (bs : List Nat) (n at_ s : Nat) (hb : ∀ b ∈ bs, b < 256) (hl : bs.length = n) : numQ bs n at_ s < 256 ^ s := by
  unfold numQ
  split
  · exact numN_lt bs at_ s hb (by omega)
  · exact Nat.pow_pos (by decide)
theorem rOpened_any (a : Option Addr) (n cap : Nat) (bs : List Nat) (w : World) (h : HoldsB w a n bs) (hn : n ≤ 1048576) (hc : n ≤ cap) :
    Calls Try.prog 50 #[.slice a n cap] w fun e w' => e = .returned (.bool (openB bs)) ∧ w = w' := by
  have hl := h.len
  by_cases h4 : 4 ≤ n
  · obtain ⟨k, hk⟩ : ∃ k, n - 4 = k := ⟨_, rfl⟩
    have e1 : (n : Int) - 4 = (k : Int) := by omega
    have CN := Lib.hid (rnum_yes a n cap bs k 4 w h (by omega) (by omega) (by omega) (by omega))
    have CS := Lib.hid (show Calls Try.prog 69 #[.slice a k cap] w fun e w' => e = .returned (.int .u32 (Crc.sum (bs.take k))) ∧ w = w' from by
      obtain ⟨q, o, rfl, -⟩ := h.at (by omega)
      exact rsumOf_any (some ⟨q, o, none⟩) k cap (bs.take k) w (h.front k (by omega)) (by omega))
    obtain ⟨x, hx⟩ : ∃ x, numN bs k 4 = x := ⟨_, rfl⟩
    have hx4 : x < 4294967296 := by rw [← hx]; exact num4_lt bs k h.2 (by omega)
    obtain ⟨c, hcc⟩ : ∃ c, Crc.sum (bs.take k) = c := ⟨_, rfl⟩
    have hc4 : c < 4294967296 := by rw [← hcc]; exact sum_lt9 _
    rw [hx, wrap_small x (by omega), show ((4 : Nat) : Int) = 4 from rfl] at CN
    rw [hcc] at CS
    have OP : openB bs = ((x : Int) == (c : Int)) := by
      unfold openB
      rw [hl, hk, hx, hcc, decide_eq_true h4, Bool.true_and]
      by_cases h : x = c <;> simp [h]
      omega
    rw [OP]
    have d4 : decide ((n : Int) < 4) = false := decide_eq_false (by omega)
    have n1 : (0 : Int) ≤ (k : Int) := by omega
    have n2 : (k : Int) ≤ (cap : Int) := by omega
    have n3 : k ≤ cap := by omega
    clear hk hx hcc h hl OP h4
    go_enter Try.func50, Try.ntmps50
    go_wp2_with fail
    with_reducible refine CN.out.mono ?_
    rintro e w' ⟨rfl, rfl⟩
    go_wp2_with fail
    with_reducible refine CS.out.mono ?_
    rintro e w' ⟨rfl, rfl⟩
    go_wp2_with fail
    go_ret
    exact ⟨rfl, rfl⟩
  · have OT : openB bs = false := by unfold openB; rw [hl, decide_eq_false h4, Bool.false_and]
    rw [OT]
    have d4 : decide ((n : Int) < 4) = true := decide_eq_true (by omega)
    clear h hl h4 OT
    go_enter Try.func50, Try.ntmps50
    go_wp2_with fail
    go_ret
    exact ⟨rfl, rfl⟩
end Go.Proofs.Ythboiklcjpnhbaa
/- messages in the document: the reader (num, text) -/
namespace Go.Proofs.Ythboiklcjpnhbaa
open Go.RowKit
set_option linter.unusedVariables false
set_option maxRecDepth 20000
theorem dqNum_any (r : Nat) (a : Option Addr) (n cap : Nat) (bs : List Nat) (at_ : Nat) (bad : Bool) (s : Nat) (w : World) (m : RdM r a n cap bs at_ bad w) (hn : n ≤ 1048576) (hat : at_ ≤ n) (h1 : 1 ≤ s) (h4 : s ≤ 4) :
    Calls Try.prog 78 #[.pointer (some ⟨r, 0, none⟩), .int .i64 (s : Int)] w fun e w' => e = .returned (.int .i64 (numQ bs n at_ s : Nat)) ∧ RdM r a n cap bs (atQ n at_ s) (bad || !decide (at_ + s ≤ n)) w' ∧ Turn (fun k => k = r) w w' := by
  obtain ⟨c0, c1, c2, f, h, ne⟩ := m
  have M := Lib.hid (show RdM r a n cap bs at_ bad w from ⟨c0, c1, c2, f, h, ne⟩)
  have f1 := f 1
  have f2 := f 2
  have g0 := (World.cell?_of_block (w := w) (w' := w.drew) (a := ⟨r, 0, none⟩) rfl).trans c0
  have g1 := (World.cell?_of_block (w := w) (w' := w.drew) (a := ⟨r, 1, none⟩) rfl).trans c1
  have lr := lt_of_cell c0
  have STB := Lib.hid (show ∀ k, RdM r a n cap bs at_ true ((w.drewN k).setCell ⟨r, 2, none⟩ (.bool true)) ∧ Turn (fun q => q = r) w ((w.drewN k).setCell ⟨r, 2, none⟩ (.bool true)) from fun k => by
    have b := below_drewN w k
    have t : Turn (fun q => q = r) w ((w.drewN k).setCell ⟨r, 2, none⟩ (.bool true)) := (Turn.of_below b).trans (Turn.setCell rfl)
    exact ⟨⟨(cset_ne (by omega)).trans ((b.cell (p := ⟨r, 0, none⟩) lr).trans c0), (cset_ne (by omega)).trans ((b.cell (p := ⟨r, 1, none⟩) lr).trans c1), cset_at ((b.cell (p := ⟨r, 2, none⟩) lr).trans c2), fun i => fset_any.trans ((b.frozen (p := ⟨r, i, none⟩) lr).trans (f i)), holdsB_turn h t ne, ne⟩, t⟩)
  have STA := Lib.hid (show ∀ k (y : Nat), RdM r a n cap bs y bad ((w.drewN k).setCell ⟨r, 1, none⟩ (.int .i64 (y : Int))) ∧ Turn (fun q => q = r) w ((w.drewN k).setCell ⟨r, 1, none⟩ (.int .i64 (y : Int))) from fun k y => by
    have b := below_drewN w k
    have t : Turn (fun q => q = r) w ((w.drewN k).setCell ⟨r, 1, none⟩ (.int .i64 (y : Int))) := (Turn.of_below b).trans (Turn.setCell rfl)
    exact ⟨⟨(cset_ne (by omega)).trans ((b.cell (p := ⟨r, 0, none⟩) lr).trans c0), cset_at ((b.cell (p := ⟨r, 1, none⟩) lr).trans c1), (cset_ne (by omega)).trans ((b.cell (p := ⟨r, 2, none⟩) lr).trans c2), fun i => fset_any.trans ((b.frozen (p := ⟨r, i, none⟩) lr).trans (f i)), holdsB_turn h t ne, ne⟩, t⟩)
  by_cases hle : at_ + s ≤ n
  · have CN := Lib.hid (fun w' (hb : Below w.heap.size w w') => (show Calls Try.prog 49 #[.slice a n cap, .int .i64 (at_ : Int), .int .i64 (s : Int)] w' fun e w'' => e = .returned (.tuple #[.int .i64 (numN bs at_ s : Nat), .bool true]) ∧ w' = w'' from by
      have h2 := rnum_yes a n cap bs at_ s w' (h.below hb) (by omega) h1 (by omega) hle
      rw [wrap_small _ (by
        have h3 := numN_lt bs at_ s h.2 (by rw [h.len]; omega)
        have h5 : 256 ^ s ≤ 256 ^ 4 := Nat.pow_le_pow_right (by decide) h4
        have : (256 : Nat) ^ 4 = 4294967296 := by decide
        omega)] at h2
      exact h2))
    have EN : numQ bs n at_ s = numN bs at_ s := by unfold numQ; rw [if_pos hle]
    have EA : atQ n at_ s = at_ + s := by unfold atQ; rw [if_pos hle]
    have EB : (bad || !decide (at_ + s ≤ n)) = bad := by rw [decide_eq_true hle]; simp
    rw [EN, EA, EB]
    have e2 : (at_ : Int) + (s : Int) = ((at_ + s : Nat) : Int) := by omega
    obtain ⟨y, hy⟩ : ∃ y, at_ + s = y := ⟨_, rfl⟩
    rw [hy] at e2 ⊢
    clear hle h f hy EN EA EB
    go_enter Try.func78, Try.ntmps78
    go_wp2_with fail
    go_quiet ((go_at_call 49; exact Calls.quiet_of_same ((CN.out _ (by first | exact (Below.refl _ _).drew | exact below_drewN _ _)).mono (fun _ _ h => ⟨h.1, h.2.symm⟩))))
    go_wp2_with fail
    go_ret
    exact ⟨rfl, STA.out nq y⟩
  · have CN := Lib.hid (fun w' => (show Calls Try.prog 49 #[.slice a n cap, .int .i64 (at_ : Int), .int .i64 (s : Int)] w' fun e w'' => e = .returned (.tuple #[.int .i64 0, .bool false]) ∧ w' = w'' from
      rnum_no a n cap at_ s w' (by omega) (by omega)))
    have EN : numQ bs n at_ s = 0 := by unfold numQ; rw [if_neg hle]
    have EA : atQ n at_ s = at_ := by unfold atQ; rw [if_neg hle]
    have EB : (bad || !decide (at_ + s ≤ n)) = true := by rw [decide_eq_false hle]; simp
    rw [EN, EA, EB]
    clear hle h f EN EA EB
    go_enter Try.func78, Try.ntmps78
    go_wp2_with fail
    go_quiet ((go_at_call 49; exact Calls.quiet_of_same ((CN.out _).mono (fun _ _ h => ⟨h.1, h.2.symm⟩))))
    go_wp2_with fail
    go_ret
    exact ⟨rfl, STB.out nq⟩
/-- the document's reader: it reads on behind what was missing -/
def dNum (n s : Nat) (r : RS) : RS := ⟨atQ n r.k s, r.bad || !decide (r.k + s ≤ n)⟩
def dG (bs : List Nat) (n s : Nat) (r : RS) : Int := (numQ bs n r.k s : Nat)
def okD (bs : List Nat) (n : Nat) (k : Nat) : Bool := decide (k + 2 ≤ n) && decide (k + 2 + numN bs k 2 ≤ n)
def dTx (bs : List Nat) (n : Nat) (r : RS) : Tx := if okD bs n r.k then strN (textN bs r.k) else ⟨#[]⟩
def dTe (bs : List Nat) (n : Nat) (r : RS) : RS := if okD bs n r.k then ⟨r.k + 2 + numN bs r.k 2, r.bad⟩ else ⟨r.k, true⟩
theorem dNum_good {n s : Nat} {r : RS} (h : r.bad = false) : dNum n s r = rNum n s r := by
  obtain ⟨k, b⟩ := r
  simp only at h
  subst h
  unfold dNum rNum atQ atR okR
  by_cases h2 : k + s ≤ n <;> simp [h2]
theorem dG_good {bs : List Nat} {n s : Nat} {r : RS} (h : r.bad = false) : dG bs n s r = gNum bs n s r := by
  obtain ⟨k, b⟩ := r
  simp only at h
  subst h
  unfold dG gNum numQ numR okR
  by_cases h2 : k + s ≤ n <;> simp [h2]
theorem dTe_good {bs : List Nat} {n : Nat} {r : RS} (h : r.bad = false) : dTe bs n r = rText bs n r := by
  obtain ⟨k, b⟩ := r
  simp only at h
  subst h
  unfold dTe rText okD okT
  simp
theorem dTx_good {bs : List Nat} {n : Nat} {r : RS} (h : r.bad = false) : dTx bs n r = gText bs n r := by
  obtain ⟨k, b⟩ := r
  simp only at h
  subst h
  unfold dTx gText okD okT
  simp
theorem dNum_bad {n s : Nat} {r : RS} (h : r.bad = true) : (dNum n s r).bad = true := by unfold dNum; simp [h]
theorem dTe_bad {bs : List Nat} {n : Nat} {r : RS} (h : r.bad = true) : (dTe bs n r).bad = true := by unfold dTe; split <;> simp [h]
theorem dsNum (z : Nat) (zi : Int) (hz : zi = (z : Int)) (h1 : 1 ≤ z) (h4 : z ≤ 4) {r : Nat} {a : Option Addr} {n cap : Nat} {bs : List Nat} {s : RS} (w : World) (h : RdS r a n cap bs s w) :
    Calls Try.prog 78 #[.pointer (some ⟨r, 0, none⟩), .int .i64 zi] w (RdP r a n cap bs (dNum n z s) w (.int .i64 (dG bs n z s))) := by
  subst hz
  refine (dqNum_any r a n cap bs s.k s.bad z w h.m (by have := h.hn; omega) h.le h1 h4).mono ?_
  rintro e w' ⟨he, hm, ht⟩
  exact ⟨he, ⟨hm, atQ_le h.le, h.hn, h.nc⟩, ht⟩
set_option maxHeartbeats 3200000 in
theorem dsText {r : Nat} {a : Option Addr} {n cap : Nat} {bs : List Nat} {s : RS} (w : World) (hS : RdS r a n cap bs s w) :
    Calls Try.prog 79 #[.pointer (some ⟨r, 0, none⟩)] w (RdP r a n cap bs (dTe bs n s) w (.string (dTx bs n s))) := by
  obtain ⟨at_, bad⟩ := s
  obtain ⟨⟨c0, c1, c2, f, h, ne⟩, hat, hn, hnc⟩ := hS
  simp only at c1 c2 hat
  have f1 := f 1
  have f2 := f 2
  have g0 := (World.cell?_of_block (w := w) (w' := w.drew) (a := ⟨r, 0, none⟩) rfl).trans c0
  have g1 := (World.cell?_of_block (w := w) (w' := w.drew) (a := ⟨r, 1, none⟩) rfl).trans c1
  have lr := lt_of_cell c0
  have STB := Lib.hid (show ∀ k, RdS r a n cap bs ⟨at_, true⟩ ((w.drewN k).setCell ⟨r, 2, none⟩ (.bool true)) ∧ Turn (fun q => q = r) w ((w.drewN k).setCell ⟨r, 2, none⟩ (.bool true)) from fun k => by
    have b := below_drewN w k
    have t : Turn (fun q => q = r) w ((w.drewN k).setCell ⟨r, 2, none⟩ (.bool true)) := (Turn.of_below b).trans (Turn.setCell rfl)
    exact ⟨⟨⟨(cset_ne (by omega)).trans ((b.cell (p := ⟨r, 0, none⟩) lr).trans c0), (cset_ne (by omega)).trans ((b.cell (p := ⟨r, 1, none⟩) lr).trans c1), cset_at ((b.cell (p := ⟨r, 2, none⟩) lr).trans c2), fun i => fset_any.trans ((b.frozen (p := ⟨r, i, none⟩) lr).trans (f i)), holdsB_turn h t ne, ne⟩, hat, hn, hnc⟩, t⟩)
  have STA := Lib.hid (show ∀ k (y : Nat), y ≤ n → RdS r a n cap bs ⟨y, bad⟩ ((w.drewN k).setCell ⟨r, 1, none⟩ (.int .i64 (y : Int))) ∧ Turn (fun q => q = r) w ((w.drewN k).setCell ⟨r, 1, none⟩ (.int .i64 (y : Int))) from fun k y hy => by
    have b := below_drewN w k
    have t : Turn (fun q => q = r) w ((w.drewN k).setCell ⟨r, 1, none⟩ (.int .i64 (y : Int))) := (Turn.of_below b).trans (Turn.setCell rfl)
    exact ⟨⟨⟨(cset_ne (by omega)).trans ((b.cell (p := ⟨r, 0, none⟩) lr).trans c0), cset_at ((b.cell (p := ⟨r, 1, none⟩) lr).trans c1), (cset_ne (by omega)).trans ((b.cell (p := ⟨r, 2, none⟩) lr).trans c2), fun i => fset_any.trans ((b.frozen (p := ⟨r, i, none⟩) lr).trans (f i)), holdsB_turn h t ne, ne⟩, hy, hn, hnc⟩, t⟩)
  by_cases hok : at_ + 2 ≤ n ∧ at_ + 2 + numN bs at_ 2 ≤ n
  · obtain ⟨hk1, hk2⟩ := hok
    have CN := Lib.hid (fun w' (hb : Below w.heap.size w w') => rtext_yes a n cap bs at_ w' (h.below hb) (by omega) hnc hk2)
    obtain ⟨y, hy⟩ : ∃ y, at_ + 2 + numN bs at_ 2 = y := ⟨_, rfl⟩
    obtain ⟨sv, hsv⟩ : ∃ v, strN (textN bs at_) = v := ⟨_, rfl⟩
    rw [hy, hsv] at CN
    rw [hy] at hk2
    have e1 : okD bs n at_ = true := by unfold okD; simp [hk1, hy, hk2]
    have EN : dTx bs n ⟨at_, bad⟩ = sv := by unfold dTx; rw [e1, if_pos rfl, hsv]
    have EA : dTe bs n ⟨at_, bad⟩ = ⟨y, bad⟩ := by unfold dTe; rw [e1, if_pos rfl, hy]
    rw [EN, EA]
    have YL := Lib.hid hk2
    clear hk1 hk2 h f hy hsv e1 EN EA
    go_enter Try.func79, Try.ntmps79
    go_wp2_with fail
    go_quiet ((go_at_call 99; exact Calls.quiet_of_same ((CN.out _ (by first | exact (Below.refl _ _).drew | exact below_drewN _ _)).mono (fun _ _ h => ⟨h.1, h.2.symm⟩))))
    go_wp2_with fail
    go_ret
    exact ⟨rfl, STA.out nq y YL.out⟩
  · have CN := Lib.hid (fun w' (hb : Below w.heap.size w w') => (show Calls Try.prog 99 #[.slice a n cap, .int .i64 (at_ : Int)] w' fun e w'' => e = .returned (.tuple #[.string ⟨#[]⟩, .int .i64 0, .bool false]) ∧ w' = w'' from by
      by_cases hk : at_ + 2 ≤ n
      · exact rtext_far a n cap bs at_ w' (h.below hb) (by omega) hk (by omega)
      · exact rtext_none a n cap at_ w' (by omega) (by omega) (by omega)))
    have e1 : okD bs n at_ = false := by
      unfold okD
      by_cases hk : at_ + 2 ≤ n
      · have : ¬ (at_ + 2 + numN bs at_ 2 ≤ n) := fun h => hok ⟨hk, h⟩
        simp [this]
      · simp [hk]
    have EN : dTx bs n ⟨at_, bad⟩ = ⟨#[]⟩ := by unfold dTx; rw [e1]; rfl
    have EA : dTe bs n ⟨at_, bad⟩ = ⟨at_, true⟩ := by unfold dTe; rw [e1]; rfl
    rw [EN, EA]
    clear hok h f e1 EN EA
    go_enter Try.func79, Try.ntmps79
    go_wp2_with fail
    go_quiet ((go_at_call 99; exact Calls.quiet_of_same ((CN.out _ (by first | exact (Below.refl _ _).drew | exact below_drewN _ _)).mono (fun _ _ h => ⟨h.1, h.2.symm⟩))))
    go_wp2_with fail
    go_ret
    exact ⟨rfl, STB.out nq⟩
end Go.Proofs.Ythboiklcjpnhbaa
/- messages in the document: Any (by gen/me2.py) -/
namespace Go.Proofs.Ythboiklcjpnhbaa
open Go.RowKit
set_option linter.unusedVariables false
set_option maxRecDepth 20000
set_option maxRecDepth 100000
set_option maxHeartbeats 1600000 in
theorem any_Hello (a b : Int) (w : World) : Calls Try.prog 28 #[.agg #[.int .i64 1, .int .i64 a, .int .i64 b, .int .i64 0, .int .i64 0, .int .i64 0, .int .i64 0, .int .i64 0, .int .i64 0, .int .i64 0, .int .i64 0, .string ⟨#[]⟩, .int .i64 0, .int .i64 0, .bool false, .int .i64 0, .string ⟨#[]⟩, .int .i64 0, .int .i64 0, .int .i64 0, .int .i64 0, .int .i64 0, .int .i64 0, .slice .none 0 0, .bool false, .int .i64 0, .int .i64 0]] w fun e w' => e = .returned (.iface 23 (.agg #[.int .i64 a, .int .i64 b])) ∧ Below w.heap.size w w' := by
  obtain ⟨w3, hw3⟩ : ∃ w3, w.alloc (.cells #[.int .i64 1, .int .i64 a, .int .i64 b, .int .i64 0, .int .i64 0, .int .i64 0, .int .i64 0, .int .i64 0, .int .i64 0, .int .i64 0, .int .i64 0, .string ⟨#[]⟩, .int .i64 0, .int .i64 0, .bool false, .int .i64 0, .string ⟨#[]⟩, .int .i64 0, .int .i64 0, .int .i64 0, .int .i64 0, .int .i64 0, .int .i64 0, .slice .none 0 0, .bool false, .int .i64 0, .int .i64 0] 46) = w3 := ⟨_, rfl⟩
  have BX := Lib.hid (show Below w.heap.size w w3 from hw3 ▸ below_one w _)
  have x0 : w3.cell? ⟨w.heap.size, 0, none⟩ = some (.int .i64 1) := by rw [← hw3, World.cell?_alloc_mark]; rfl
  have x1 : w3.cell? ⟨w.heap.size, 1, none⟩ = some (.int .i64 a) := by rw [← hw3, World.cell?_alloc_mark]; rfl
  have x2 : w3.cell? ⟨w.heap.size, 2, none⟩ = some (.int .i64 b) := by rw [← hw3, World.cell?_alloc_mark]; rfl
  obtain ⟨p, hp⟩ : ∃ p, w.heap.size = p := ⟨_, rfl⟩
  rw [hp] at x0 x1 x2
  go_enter Try.func28, Try.ntmps28
  go_upto_region 1 with fail
  try rw [hw3]
  try simp only [hp]
  clear hw3 hp
  go_wp2_with fail
  go_ret
  exact ⟨rfl, BX.out⟩
set_option maxHeartbeats 1600000 in
theorem any_Grant (a b c : Int) (w : World) : Calls Try.prog 28 #[.agg #[.int .i64 2, .int .i64 0, .int .i64 0, .int .i64 a, .int .i64 b, .int .i64 c, .int .i64 0, .int .i64 0, .int .i64 0, .int .i64 0, .int .i64 0, .string ⟨#[]⟩, .int .i64 0, .int .i64 0, .bool false, .int .i64 0, .string ⟨#[]⟩, .int .i64 0, .int .i64 0, .int .i64 0, .int .i64 0, .int .i64 0, .int .i64 0, .slice .none 0 0, .bool false, .int .i64 0, .int .i64 0]] w fun e w' => e = .returned (.iface 25 (.agg #[.int .i64 a, .int .i64 b, .int .i64 c])) ∧ Below w.heap.size w w' := by
  obtain ⟨w3, hw3⟩ : ∃ w3, w.alloc (.cells #[.int .i64 2, .int .i64 0, .int .i64 0, .int .i64 a, .int .i64 b, .int .i64 c, .int .i64 0, .int .i64 0, .int .i64 0, .int .i64 0, .int .i64 0, .string ⟨#[]⟩, .int .i64 0, .int .i64 0, .bool false, .int .i64 0, .string ⟨#[]⟩, .int .i64 0, .int .i64 0, .int .i64 0, .int .i64 0, .int .i64 0, .int .i64 0, .slice .none 0 0, .bool false, .int .i64 0, .int .i64 0] 46) = w3 := ⟨_, rfl⟩
  have BX := Lib.hid (show Below w.heap.size w w3 from hw3 ▸ below_one w _)
  have x0 : w3.cell? ⟨w.heap.size, 0, none⟩ = some (.int .i64 2) := by rw [← hw3, World.cell?_alloc_mark]; rfl
  have x3 : w3.cell? ⟨w.heap.size, 3, none⟩ = some (.int .i64 a) := by rw [← hw3, World.cell?_alloc_mark]; rfl
  have x4 : w3.cell? ⟨w.heap.size, 4, none⟩ = some (.int .i64 b) := by rw [← hw3, World.cell?_alloc_mark]; rfl
  have x5 : w3.cell? ⟨w.heap.size, 5, none⟩ = some (.int .i64 c) := by rw [← hw3, World.cell?_alloc_mark]; rfl
  obtain ⟨p, hp⟩ : ∃ p, w.heap.size = p := ⟨_, rfl⟩
  rw [hp] at x0 x3 x4 x5
  go_enter Try.func28, Try.ntmps28
  go_upto_region 1 with fail
  try rw [hw3]
  try simp only [hp]
  clear hw3 hp
  go_wp2_with fail
  go_ret
  exact ⟨rfl, BX.out⟩
set_option maxHeartbeats 1600000 in
theorem any_Ask (x : AskP) (w : World) : Calls Try.prog 28 #[.agg #[.int .i64 3, .int .i64 0, .int .i64 0, .int .i64 0, .int .i64 0, .int .i64 0, .int .i64 x.slot, .int .i64 x.query, .int .i64 x.shard, .int .i64 x.seq, .int .i64 x.epoch, .string x.text, .int .i64 x.k, .int .i64 x.batch, .bool x.first, .int .i64 x.ad, .string x.aw, .int .i64 0, .int .i64 0, .int .i64 0, .int .i64 0, .int .i64 0, .int .i64 0, .slice .none 0 0, .bool false, .int .i64 0, .int .i64 0]] w fun e w' => e = .returned (.iface 29 (.agg #[.int .i64 x.slot, .int .i64 x.query, .int .i64 x.shard, .int .i64 x.seq, .int .i64 x.epoch, .string x.text, .int .i64 x.k, .int .i64 x.batch, .bool x.first, .int .i64 x.ad, .string x.aw])) ∧ Below w.heap.size w w' := by
  obtain ⟨w3, hw3⟩ : ∃ w3, w.alloc (.cells #[.int .i64 3, .int .i64 0, .int .i64 0, .int .i64 0, .int .i64 0, .int .i64 0, .int .i64 x.slot, .int .i64 x.query, .int .i64 x.shard, .int .i64 x.seq, .int .i64 x.epoch, .string x.text, .int .i64 x.k, .int .i64 x.batch, .bool x.first, .int .i64 x.ad, .string x.aw, .int .i64 0, .int .i64 0, .int .i64 0, .int .i64 0, .int .i64 0, .int .i64 0, .slice .none 0 0, .bool false, .int .i64 0, .int .i64 0] 46) = w3 := ⟨_, rfl⟩
  have BX := Lib.hid (show Below w.heap.size w w3 from hw3 ▸ below_one w _)
  have x0 : w3.cell? ⟨w.heap.size, 0, none⟩ = some (.int .i64 3) := by rw [← hw3, World.cell?_alloc_mark]; rfl
  have x6 : w3.cell? ⟨w.heap.size, 6, none⟩ = some (.int .i64 x.slot) := by rw [← hw3, World.cell?_alloc_mark]; rfl
  have x7 : w3.cell? ⟨w.heap.size, 7, none⟩ = some (.int .i64 x.query) := by rw [← hw3, World.cell?_alloc_mark]; rfl
  have x8 : w3.cell? ⟨w.heap.size, 8, none⟩ = some (.int .i64 x.shard) := by rw [← hw3, World.cell?_alloc_mark]; rfl
  have x9 : w3.cell? ⟨w.heap.size, 9, none⟩ = some (.int .i64 x.seq) := by rw [← hw3, World.cell?_alloc_mark]; rfl
  have x10 : w3.cell? ⟨w.heap.size, 10, none⟩ = some (.int .i64 x.epoch) := by rw [← hw3, World.cell?_alloc_mark]; rfl
  have x11 : w3.cell? ⟨w.heap.size, 11, none⟩ = some (.string x.text) := by rw [← hw3, World.cell?_alloc_mark]; rfl
  have x12 : w3.cell? ⟨w.heap.size, 12, none⟩ = some (.int .i64 x.k) := by rw [← hw3, World.cell?_alloc_mark]; rfl
  have x13 : w3.cell? ⟨w.heap.size, 13, none⟩ = some (.int .i64 x.batch) := by rw [← hw3, World.cell?_alloc_mark]; rfl
  have x14 : w3.cell? ⟨w.heap.size, 14, none⟩ = some (.bool x.first) := by rw [← hw3, World.cell?_alloc_mark]; rfl
  have x15 : w3.cell? ⟨w.heap.size, 15, none⟩ = some (.int .i64 x.ad) := by rw [← hw3, World.cell?_alloc_mark]; rfl
  have x16 : w3.cell? ⟨w.heap.size, 16, none⟩ = some (.string x.aw) := by rw [← hw3, World.cell?_alloc_mark]; rfl
  obtain ⟨p, hp⟩ : ∃ p, w.heap.size = p := ⟨_, rfl⟩
  rw [hp] at x0 x6 x7 x8 x9 x10 x11 x12 x13 x14 x15 x16
  go_enter Try.func28, Try.ntmps28
  go_upto_region 1 with fail
  try rw [hw3]
  try simp only [hp]
  clear hw3 hp
  go_wp2_with fail
  go_ret
  exact ⟨rfl, BX.out⟩
set_option maxHeartbeats 1600000 in
theorem any_Reply (x : RepP) (w : World) : Calls Try.prog 28 #[.agg #[.int .i64 4, .int .i64 0, .int .i64 0, .int .i64 0, .int .i64 0, .int .i64 0, .int .i64 0, .int .i64 0, .int .i64 0, .int .i64 0, .int .i64 0, .string ⟨#[]⟩, .int .i64 0, .int .i64 0, .bool false, .int .i64 0, .string ⟨#[]⟩, .int .i64 x.slot, .int .i64 x.query, .int .i64 x.shard, .int .i64 x.seq, .int .i64 x.worker, .int .i64 x.epoch, .slice x.ia x.n x.ic, .bool x.fin, .int .i64 0, .int .i64 0]] w fun e w' => e = .returned (.iface 32 (.agg #[.int .i64 x.slot, .int .i64 x.query, .int .i64 x.shard, .int .i64 x.seq, .int .i64 x.worker, .int .i64 x.epoch, .slice x.ia x.n x.ic, .bool x.fin])) ∧ Below w.heap.size w w' := by
  obtain ⟨w3, hw3⟩ : ∃ w3, w.alloc (.cells #[.int .i64 4, .int .i64 0, .int .i64 0, .int .i64 0, .int .i64 0, .int .i64 0, .int .i64 0, .int .i64 0, .int .i64 0, .int .i64 0, .int .i64 0, .string ⟨#[]⟩, .int .i64 0, .int .i64 0, .bool false, .int .i64 0, .string ⟨#[]⟩, .int .i64 x.slot, .int .i64 x.query, .int .i64 x.shard, .int .i64 x.seq, .int .i64 x.worker, .int .i64 x.epoch, .slice x.ia x.n x.ic, .bool x.fin, .int .i64 0, .int .i64 0] 46) = w3 := ⟨_, rfl⟩
  have BX := Lib.hid (show Below w.heap.size w w3 from hw3 ▸ below_one w _)
  have x0 : w3.cell? ⟨w.heap.size, 0, none⟩ = some (.int .i64 4) := by rw [← hw3, World.cell?_alloc_mark]; rfl
  have x17 : w3.cell? ⟨w.heap.size, 17, none⟩ = some (.int .i64 x.slot) := by rw [← hw3, World.cell?_alloc_mark]; rfl
  have x18 : w3.cell? ⟨w.heap.size, 18, none⟩ = some (.int .i64 x.query) := by rw [← hw3, World.cell?_alloc_mark]; rfl
  have x19 : w3.cell? ⟨w.heap.size, 19, none⟩ = some (.int .i64 x.shard) := by rw [← hw3, World.cell?_alloc_mark]; rfl
  have x20 : w3.cell? ⟨w.heap.size, 20, none⟩ = some (.int .i64 x.seq) := by rw [← hw3, World.cell?_alloc_mark]; rfl
  have x21 : w3.cell? ⟨w.heap.size, 21, none⟩ = some (.int .i64 x.worker) := by rw [← hw3, World.cell?_alloc_mark]; rfl
  have x22 : w3.cell? ⟨w.heap.size, 22, none⟩ = some (.int .i64 x.epoch) := by rw [← hw3, World.cell?_alloc_mark]; rfl
  have x23 : w3.cell? ⟨w.heap.size, 23, none⟩ = some (.slice x.ia x.n x.ic) := by rw [← hw3, World.cell?_alloc_mark]; rfl
  have x24 : w3.cell? ⟨w.heap.size, 24, none⟩ = some (.bool x.fin) := by rw [← hw3, World.cell?_alloc_mark]; rfl
  obtain ⟨p, hp⟩ : ∃ p, w.heap.size = p := ⟨_, rfl⟩
  rw [hp] at x0 x17 x18 x19 x20 x21 x22 x23 x24
  go_enter Try.func28, Try.ntmps28
  go_upto_region 1 with fail
  try rw [hw3]
  try simp only [hp]
  clear hw3 hp
  go_wp2_with fail
  go_ret
  exact ⟨rfl, BX.out⟩
set_option maxHeartbeats 1600000 in
theorem any_Stop (a b : Int) (w : World) : Calls Try.prog 28 #[.agg #[.int .i64 5, .int .i64 0, .int .i64 0, .int .i64 0, .int .i64 0, .int .i64 0, .int .i64 0, .int .i64 0, .int .i64 0, .int .i64 0, .int .i64 0, .string ⟨#[]⟩, .int .i64 0, .int .i64 0, .bool false, .int .i64 0, .string ⟨#[]⟩, .int .i64 0, .int .i64 0, .int .i64 0, .int .i64 0, .int .i64 0, .int .i64 0, .slice .none 0 0, .bool false, .int .i64 a, .int .i64 b]] w fun e w' => e = .returned (.iface 34 (.agg #[.int .i64 a, .int .i64 b])) ∧ Below w.heap.size w w' := by
  obtain ⟨w3, hw3⟩ : ∃ w3, w.alloc (.cells #[.int .i64 5, .int .i64 0, .int .i64 0, .int .i64 0, .int .i64 0, .int .i64 0, .int .i64 0, .int .i64 0, .int .i64 0, .int .i64 0, .int .i64 0, .string ⟨#[]⟩, .int .i64 0, .int .i64 0, .bool false, .int .i64 0, .string ⟨#[]⟩, .int .i64 0, .int .i64 0, .int .i64 0, .int .i64 0, .int .i64 0, .int .i64 0, .slice .none 0 0, .bool false, .int .i64 a, .int .i64 b] 46) = w3 := ⟨_, rfl⟩
  have BX := Lib.hid (show Below w.heap.size w w3 from hw3 ▸ below_one w _)
  have x0 : w3.cell? ⟨w.heap.size, 0, none⟩ = some (.int .i64 5) := by rw [← hw3, World.cell?_alloc_mark]; rfl
  have x25 : w3.cell? ⟨w.heap.size, 25, none⟩ = some (.int .i64 a) := by rw [← hw3, World.cell?_alloc_mark]; rfl
  have x26 : w3.cell? ⟨w.heap.size, 26, none⟩ = some (.int .i64 b) := by rw [← hw3, World.cell?_alloc_mark]; rfl
  obtain ⟨p, hp⟩ : ∃ p, w.heap.size = p := ⟨_, rfl⟩
  rw [hp] at x0 x25 x26
  go_enter Try.func28, Try.ntmps28
  go_upto_region 1 with fail
  try rw [hw3]
  try simp only [hp]
  clear hw3 hp
  go_wp2_with fail
  go_ret
  exact ⟨rfl, BX.out⟩
set_option maxHeartbeats 1600000 in
theorem any_no  (w : World) : Calls Try.prog 28 #[.agg #[.int .i64 0, .int .i64 0, .int .i64 0, .int .i64 0, .int .i64 0, .int .i64 0, .int .i64 0, .int .i64 0, .int .i64 0, .int .i64 0, .int .i64 0, .string ⟨#[]⟩, .int .i64 0, .int .i64 0, .bool false, .int .i64 0, .string ⟨#[]⟩, .int .i64 0, .int .i64 0, .int .i64 0, .int .i64 0, .int .i64 0, .int .i64 0, .slice .none 0 0, .bool false, .int .i64 0, .int .i64 0]] w fun e w' => e = .returned (.nilIface) ∧ Below w.heap.size w w' := by
  obtain ⟨w3, hw3⟩ : ∃ w3, w.alloc (.cells #[.int .i64 0, .int .i64 0, .int .i64 0, .int .i64 0, .int .i64 0, .int .i64 0, .int .i64 0, .int .i64 0, .int .i64 0, .int .i64 0, .int .i64 0, .string ⟨#[]⟩, .int .i64 0, .int .i64 0, .bool false, .int .i64 0, .string ⟨#[]⟩, .int .i64 0, .int .i64 0, .int .i64 0, .int .i64 0, .int .i64 0, .int .i64 0, .slice .none 0 0, .bool false, .int .i64 0, .int .i64 0] 46) = w3 := ⟨_, rfl⟩
  have BX := Lib.hid (show Below w.heap.size w w3 from hw3 ▸ below_one w _)
  have x0 : w3.cell? ⟨w.heap.size, 0, none⟩ = some (.int .i64 0) := by rw [← hw3, World.cell?_alloc_mark]; rfl
  obtain ⟨p, hp⟩ : ∃ p, w.heap.size = p := ⟨_, rfl⟩
  rw [hp] at x0
  go_enter Try.func28, Try.ntmps28
  go_upto_region 1 with fail
  try rw [hw3]
  try simp only [hp]
  clear hw3 hp
  go_wp2_with fail
  go_ret
  exact ⟨rfl, BX.out⟩
def anyV : MsgV → Value
  | .num _ => .nilIface
  | M => valM M
theorem any_all (M : MsgV) (w : World) : Calls Try.prog 28 #[msgC M] w fun e w' => e = .returned (anyV M) ∧ Below w.heap.size w w' := by
  cases M with
  | hello a b => exact any_Hello a b w
  | grant a b c => exact any_Grant a b c w
  | ask x => exact any_Ask x w
  | reply x => exact any_Reply x w
  | stop a b => exact any_Stop a b w
  | num k => exact any_no w
  | none => exact any_no w
end Go.Proofs.Ythboiklcjpnhbaa
/- messages in the document: the reader's items -/
namespace Go.Proofs.Ythboiklcjpnhbaa
open Go.RowKit
set_option linter.unusedVariables false
set_option maxRecDepth 20000
def dItem (bs : List Nat) (n : Nat) (s : RS) : KV := (dG bs n 1 s, dTx bs n (dNum n 1 s))
def dIte (bs : List Nat) (n : Nat) (s : RS) : RS := dTe bs n (dNum n 1 s)
def dIs (bs : List Nat) (n : Nat) : Nat → RS → RS
  | 0, s => s
  | k + 1, s => dIte bs n (dIs bs n k s)
def dIl (bs : List Nat) (n : Nat) : Nat → RS → List KV
  | 0, _ => []
  | k + 1, s => dIl bs n k s ++ [dItem bs n (dIs bs n k s)]
theorem dIl_len (bs : List Nat) (n : Nat) (s : RS) : ∀ k, (dIl bs n k s).length = k
  | 0 => rfl
  | k + 1 => by simp [dIl, dIl_len bs n s k]
theorem dItem_good {bs : List Nat} {n : Nat} {s : RS} (h : s.bad = false) (h2 : (dIte bs n s).bad = false) : dItem bs n s = gItem bs n s ∧ dIte bs n s = rItem bs n s := by
  have h1 : (dNum n 1 s).bad = false := by
    cases e : (dNum n 1 s).bad
    · rfl
    · have := dTe_bad (bs := bs) (n := n) e; unfold dIte at h2; rw [this] at h2; cases h2
  have e1 := dNum_good (n := n) (s := 1) h
  constructor
  · unfold dItem gItem
    rw [dG_good h, dTx_good h1, e1]
  · unfold dIte rItem
    rw [dTe_good h1, e1]
theorem dIs_bad {bs : List Nat} {n : Nat} {s : RS} : ∀ {k}, s.bad = true → (dIs bs n k s).bad = true
  | 0, h => h
  | k + 1, h => by
    show (dTe bs n (dNum n 1 (dIs bs n k s))).bad = true
    exact dTe_bad (dNum_bad (dIs_bad h))
theorem dIs_stay {bs : List Nat} {n : Nat} {s : RS} {k : Nat} (h : (dIs bs n (k + 1) s).bad = false) : (dIs bs n k s).bad = false := by
  cases e : (dIs bs n k s).bad
  · rfl
  · have : (dIs bs n (k + 1) s).bad = true := dTe_bad (dNum_bad e)
    rw [this] at h; cases h
theorem dIs_good {bs : List Nat} {n : Nat} {s : RS} : ∀ {k}, (dIs bs n k s).bad = false → dIl bs n k s = gItems bs n k s ∧ dIs bs n k s = rItems bs n k s
  | 0, h => ⟨rfl, rfl⟩
  | k + 1, h => by
    have hk := dIs_stay h
    obtain ⟨e1, e2⟩ := dIs_good hk
    have h2 : (dIte bs n (dIs bs n k s)).bad = false := h
    obtain ⟨e3, e4⟩ := dItem_good hk h2
    exact ⟨by show dIl bs n k s ++ _ = gItems bs n k s ++ _; rw [e1, e3, e2], by show dIte bs n (dIs bs n k s) = rItem bs n (rItems bs n k s); rw [e4, e2]⟩
def DItsP (r : Nat) (a : Option Addr) (n cap : Nat) (bs : List Nat) (s : RS) (w : World) (m : Nat) (e : Ending) (w' : World) : Prop :=
  ∃ j, j ≤ m ∧ (j = m ∨ (dIs bs n j s).bad = true) ∧ ItsP r a n cap bs (dIs bs n j s) w (dIl bs n j s) j e w'
set_option maxHeartbeats 3200000 in
theorem dsItems (m : Nat) (m256 : m < 256) {r : Nat} {a : Option Addr} {n cap : Nat} {bs : List Nat} {s1 : RS} (w : World) (h : RdS r a n cap bs s1 w) :
    Calls Try.prog 80 #[.pointer (some ⟨r, 0, none⟩), .int .i64 (m : Int)] w (DItsP r a n cap bs s1 w m) := by
  obtain ⟨i0, hi, hz0, hz1, hz2⟩ := info_parts prI_info
  have LR := Lib.hid (lt_of_cell h.m.c0)
  have AL := Lib.hid (show 0 < n → ∀ q o, a = some ⟨q, o, none⟩ → q < w.heap.size from fun h0 => h.lt h0)
  have M1 := Lib.hid h
  have T1 := Lib.hid (Turn.of_below (F := fun k => k = r) (Below.refl w.heap.size w))
  clear h
  go_enter Try.func80, Try.ntmps80
  go_wp2_with fail
  go_loopw [5, 6] (fun iv cv wr => ∃ (j : Nat) (ia : Option Addr) (ic : Nat), j ≤ m ∧ iv = .slice ia j ic ∧ cv = .int .i64 (j : Int) ∧ Hid (wr.ownsRow w.heap.size 27 2 (.slice ia j ic) j (keysV (dIl bs n j s1))) ∧ Hid (RdS r a n cap bs (dIs bs n j s1) wr) ∧ Hid (Turn (fun k => k = r) w wr) ∧ Hid (ia = none → j = 0 ∧ ic = 0)) (fun _ cv _ => m - (intOf cv).toNat)
  case atStart => exact ⟨0, none, 0, by omega, rfl, rfl, Lib.hid (World.ownsRow_nil _ _ _ _), M1, T1, Lib.hid (fun _ => ⟨rfl, rfl⟩)⟩
  case round =>
    clear M1 T1
    obtain ⟨j, ia, ic, hj, rfl, rfl, hO, hM, hT, hN⟩ := hrel
    rename World => wr
    have c2 := hM.out.m.c2
    by_cases hlt : j < m
    · cases hbad : (dIs bs n j s1).bad with
      | true =>
        rw [hbad] at c2
        have FF := Lib.hid (show DItsP r a n cap bs s1 w m (.returned (.slice ia j ic)) wr from ⟨j, by omega, Or.inr hbad, ia, ic, rfl, HoldsK.own hO.out, hN.out, (owns_none hO.out).2, hO.out, hM.out, hT.out⟩)
        clear hO hM hT hN hbad
        go_wp2_with fail
        go_ret
        exact FF.out
      | false =>
      rw [hbad] at c2
      have CI := Lib.hid (dsNum 1 1 rfl (by omega) (by omega) wr hM.out)
      obtain ⟨sj, hsj⟩ : ∃ sj, dIs bs n j s1 = sj := ⟨_, rfl⟩
      rw [hsj] at CI
      have CT := Lib.hid (fun w2 (h : RdS r a n cap bs (dNum n 1 sj) w2) => dsText w2 h)
      obtain ⟨v1, hv1⟩ : ∃ v, dG bs n 1 sj = v := ⟨_, rfl⟩
      obtain ⟨v2, hv2⟩ : ∃ v, dTx bs n (dNum n 1 sj) = v := ⟨_, rfl⟩
      rw [hv1] at CI
      rw [hv2] at CT
      have GE := Lib.hid (show keysV (dIl bs n (j + 1) s1) = keysV (dIl bs n j s1) ++ [.int .i64 v1, .string v2] from by
        show keysV (dIl bs n j s1 ++ [dItem bs n (dIs bs n j s1)]) = _
        rw [keysV_app, hsj]; unfold dItem; rw [hv1, hv2]; rfl)
      have SE := Lib.hid (show dIs bs n (j + 1) s1 = dTe bs n (dNum n 1 sj) from by show dIte bs n (dIs bs n j s1) = _; rw [hsj]; rfl)
      clear hsj hv1 hv2 hbad
      go_wp2_with fail
      with_reducible refine CI.out.mono ?_
      rintro e w1 ⟨rfl, hM1, hT1⟩
      have CT1 := Lib.hid (CT.out w1 hM1)
      have T1 := Lib.hid (hT.out.trans hT1)
      have U1 := Lib.hid hT1
      clear hM1 hT1 CI CT c2 hM hT
      go_wp2_with fail
      with_reducible refine CT1.out.mono ?_
      rintro e w2 ⟨rfl, hM2, hT2⟩
      have M2 := Lib.hid hM2
      have T2 := Lib.hid (T1.out.trans hT2)
      have hTT := U1.out.trans hT2
      have O2 := Lib.hid (show w2.ownsRow w.heap.size 27 2 (.slice ia j ic) j (keysV (dIl bs n j s1)) from hO.out.kept ⟨hTT.os, hTT.tape, hTT.output, hTT.size, fun k hk hn => hTT.block k hk (fun e => hn (by rw [e]))⟩ (row := some r) (by
        rcases h : (Value.slice ia j ic).ownBlock with _ | g
        · exact Or.inl rfl
        · right; intro e; injection e with e; have := (hO.out.lt g h).1; have := LR.out; omega))
      have Z2 := Lib.hid (show w.heap.size ≤ w2.heap.size from T2.out.size)
      clear hM2 hT2 hTT CT1 hO T1 U1
      go_wp2_with (at_builtin; refine wpList_append_any rfl (.tmp 22) (.tmp 27) 30 rfl w.heap.size 27 i0 _ 2 24 Try.underlying30 hi hz0 hz1 hz2 rfl (by decide) _ j _ rfl (O2.out.alloc _) _ 1 1 [.int .i64 v1, .string v2] rfl (fun e => by cases e) rfl (two_newM rfl) (by simp [Value.oneCell']) (by unfold maxLen; omega) (by omega) (by have := Z2.out; simp; omega) ?_; intro a3 c3 w3 hown3 hb3 hnil3)
      have O3 := Lib.hid (show w3.ownsRow w.heap.size 27 2 (.slice a3 (j + 1) c3) (j + 1) (keysV (dIl bs n (j + 1) s1)) from by rw [GE.out]; exact hown3)
      have B3 := Lib.hid (show Below w.heap.size w2 w3 from ((below_one w2 _).mono Z2.out).trans hb3)
      have M3 := Lib.hid (show RdS r a n cap bs (dIs bs n (j + 1) s1) w3 from by rw [SE.out]; exact M2.out.old B3.out Z2.out LR.out AL.out)
      have T3 := Lib.hid (show Turn (fun k => k = r) w w3 from T2.out.trans' (G := fun k => w.heap.size ≤ k) ⟨B3.out.os, B3.out.tape, B3.out.output, B3.out.size, fun k _ hn => B3.out.block k (by omega)⟩ (fun i hi => Or.inr hi))
      have N3 := Lib.hid hnil3
      clear hown3 hb3 hnil3
      go_wp2_with fail
      go_roundw
      case rel => exact ⟨j + 1, a3, c3, by omega, rfl, by go_num, O3, M3, T3, Lib.hid (fun e => N3.out e)⟩
      case measure => simp [intOf] <;> omega
    · obtain rfl : j = m := by omega
      have FF := Lib.hid (show DItsP r a n cap bs s1 w j (.returned (.slice ia j ic)) wr from ⟨j, by omega, Or.inl rfl, ia, ic, rfl, HoldsK.own hO.out, hN.out, (owns_none hO.out).2, hO.out, hM.out, hT.out⟩)
      clear hO hM hT hN
      go_wp2_with fail
      go_ret
      exact FF.out
end Go.Proofs.Ythboiklcjpnhbaa
/- messages in the document: read, of numbers alone (by gen/me4.py) -/
namespace Go.Proofs.Ythboiklcjpnhbaa
open Go.RowKit
set_option linter.unusedVariables false
set_option maxRecDepth 20000
set_option maxRecDepth 100000
theorem heap_cellI {w : World} {p i : Nat} {v : Value} {cs : Array Value} {t : TypeId} {fr : Nat × Nat} (h : w.heap[p]? = some (.cells cs t fr)) (h0 : cs[i]? = some v) : w.cell? ⟨p, i, none⟩ = some v := by
  simp [World.cell?, h, h0]
theorem heap_free {w : World} {p i : Nat} {cs : Array Value} {t : TypeId} (h : w.heap[p]? = some (.cells cs t (0, 0))) : w.frozen? ⟨p, i, none⟩ = false := by
  simp [World.frozen?, h]
theorem heap_set {w : World} {p i : Nat} {v : Value} {cs : Array Value} {t : TypeId} {fr : Nat × Nat} (h : w.heap[p]? = some (.cells cs t fr)) : (w.setCell ⟨p, i, none⟩ v).heap[p]? = some (.cells (cs.setIfInBounds i v) t fr) := by
  rw [setCell_eq_setRow w p i cs t fr v h]
  exact setRow_heap w p cs _ t fr h
theorem heap_turn {F : Nat → Prop} {w w' : World} {p : Nat} {o : Obj} (h : w.heap[p]? = some o) (t : Turn F w w') (hn : ¬ F p) : w'.heap[p]? = some o := (t.block p (Array.getElem?_eq_some_iff.1 h).1 hn).trans h
theorem turn_weak {F G : Nat → Prop} {w w' : World} (t : Turn F w w') (h : ∀ k, F k → G k) : Turn G w w' := ⟨t.os, t.tape, t.output, t.size, fun k hk hn => t.block k hk (fun hf => hn (h k hf))⟩
theorem turn_above {B : Nat} {w w' : World} (b : Below B w w') : Turn (fun k => B ≤ k) w w' := ⟨b.os, b.tape, b.output, b.size, fun k _ hn => b.block k (by omega)⟩
def DReadP (r : Nat) (a : Option Addr) (n cap : Nat) (bs : List Nat) (s : RS) (w : World) (V : Value) (e : Ending) (w' : World) : Prop := e = .returned V ∧ RdS r a n cap bs s w' ∧ Turn (fun k => k = r ∨ w.heap.size ≤ k) w w'
set_option maxHeartbeats 6400000 in
theorem dRead_Hello {r : Nat} {a : Option Addr} {n cap : Nat} {bs : List Nat} {s : RS} (w : World) (h : RdS r a n cap bs s w) :
    Calls Try.prog 51 #[.pointer (some ⟨r, 0, none⟩), .int .i64 1] w (DReadP r a n cap bs (dNum n 4 (dNum n 4 s)) w (.agg #[.int .i64 1, .int .i64 (dG bs n 4 s), .int .i64 (dG bs n 4 (dNum n 4 s)), .int .i64 0, .int .i64 0, .int .i64 0, .int .i64 0, .int .i64 0, .int .i64 0, .int .i64 0, .int .i64 0, .string ⟨#[]⟩, .int .i64 0, .int .i64 0, .bool false, .int .i64 0, .string ⟨#[]⟩, .int .i64 0, .int .i64 0, .int .i64 0, .int .i64 0, .int .i64 0, .int .i64 0, .slice .none 0 0, .bool false, .int .i64 0, .int .i64 0])) := by
  obtain ⟨v0, hv0⟩ : ∃ v, dG bs n 4 s = v := ⟨_, rfl⟩
  obtain ⟨s1, hs1⟩ : ∃ t, dNum n 4 s = t := ⟨_, rfl⟩
  have C0 := Lib.hid (fun w' (h : RdS r a n cap bs s w') => dsNum 4 4 rfl (by omega) (by omega) w' h)
  rw [hv0, hs1] at C0
  obtain ⟨v1, hv1⟩ : ∃ v, dG bs n 4 s1 = v := ⟨_, rfl⟩
  obtain ⟨s2, hs2⟩ : ∃ t, dNum n 4 s1 = t := ⟨_, rfl⟩
  have C1 := Lib.hid (fun w' (h : RdS r a n cap bs s1 w') => dsNum 4 4 rfl (by omega) (by omega) w' h)
  rw [hv1, hs2] at C1
  try rw [hs1]
  try rw [hs2]
  try rw [hv0]
  try rw [hv1]
  have LR := Lib.hid (lt_of_cell h.m.c0)
  have AL := Lib.hid (show 0 < n → ∀ q o, a = some ⟨q, o, none⟩ → q < w.heap.size from fun h0 => h.lt h0)
  obtain ⟨w1, hw1⟩ : ∃ w1, w.alloc (.cells #[.int .i64 0, .int .i64 0, .int .i64 0, .int .i64 0, .int .i64 0, .int .i64 0, .int .i64 0, .int .i64 0, .int .i64 0, .int .i64 0, .int .i64 0, .string ⟨#[]⟩, .int .i64 0, .int .i64 0, .bool false, .int .i64 0, .string ⟨#[]⟩, .int .i64 0, .int .i64 0, .int .i64 0, .int .i64 0, .int .i64 0, .int .i64 0, .slice .none 0 0, .bool false, .int .i64 0, .int .i64 0] 46) = w1 := ⟨_, rfl⟩
  have HP1 := Lib.hid (show w1.heap[w.heap.size]? = some (.cells #[.int .i64 0, .int .i64 0, .int .i64 0, .int .i64 0, .int .i64 0, .int .i64 0, .int .i64 0, .int .i64 0, .int .i64 0, .int .i64 0, .int .i64 0, .string ⟨#[]⟩, .int .i64 0, .int .i64 0, .bool false, .int .i64 0, .string ⟨#[]⟩, .int .i64 0, .int .i64 0, .int .i64 0, .int .i64 0, .int .i64 0, .int .i64 0, .slice .none 0 0, .bool false, .int .i64 0, .int .i64 0] 46 (0, 0)) from hw1 ▸ heap_alloc_new w _)
  have B1 := Lib.hid (show Below w.heap.size w w1 from hw1 ▸ below_one w _)
  have LW := Lib.hid (show w.heap.size < w1.heap.size from (Array.getElem?_eq_some_iff.1 HP1.out).1)
  have HQ1 := Lib.hid (heap_alloc_new w1 (.cells #[.int .i64 0, .int .i64 0, .int .i64 0, .int .i64 0, .int .i64 0, .int .i64 0, .int .i64 0, .int .i64 0, .int .i64 0, .int .i64 0, .int .i64 0, .string ⟨#[]⟩, .int .i64 0, .int .i64 0, .bool false, .int .i64 0, .string ⟨#[]⟩, .int .i64 0, .int .i64 0, .int .i64 0, .int .i64 0, .int .i64 0, .int .i64 0, .slice .none 0 0, .bool false, .int .i64 0, .int .i64 0] 46))
  obtain ⟨p, hp⟩ : ∃ p, w.heap.size = p := ⟨_, rfl⟩
  have HPH := Lib.hid hp
  rw [hp] at HP1
  have M0 := Lib.hid h
  clear h hv0 hs1 hv1 hs2
  go_enter Try.func51, Try.ntmps51
  go_upto_region 1 with fail
  try rw [hw1]
  try simp only [hp]
  clear hw1 hp
  go_upto_region 2 with (first | (refine wpList_store_row rfl 46 (.tmp 5) (.tmp 9) rfl w1.heap.size #[.int .i64 1, .int .i64 0, .int .i64 0, .int .i64 0, .int .i64 0, .int .i64 0, .int .i64 0, .int .i64 0, .int .i64 0, .int .i64 0, .int .i64 0, .string ⟨#[]⟩, .int .i64 0, .int .i64 0, .bool false, .int .i64 0, .string ⟨#[]⟩, .int .i64 0, .int .i64 0, .int .i64 0, .int .i64 0, .int .i64 0, .int .i64 0, .slice .none 0 0, .bool false, .int .i64 0, .int .i64 0] rfl rfl 46 #[.int .i64 0, .int .i64 0, .int .i64 0, .int .i64 0, .int .i64 0, .int .i64 0, .int .i64 0, .int .i64 0, .int .i64 0, .int .i64 0, .int .i64 0, .string ⟨#[]⟩, .int .i64 0, .int .i64 0, .bool false, .int .i64 0, .string ⟨#[]⟩, .int .i64 0, .int .i64 0, .int .i64 0, .int .i64 0, .int .i64 0, .int .i64 0, .slice .none 0 0, .bool false, .int .i64 0, .int .i64 0] HQ1.out (by kernel_rfl) rfl (by simp [Value.oneCell']) ?_) | fail)
  obtain ⟨w2, hw2⟩ : ∃ w2, (w1.alloc (.cells #[.int .i64 0, .int .i64 0, .int .i64 0, .int .i64 0, .int .i64 0, .int .i64 0, .int .i64 0, .int .i64 0, .int .i64 0, .int .i64 0, .int .i64 0, .string ⟨#[]⟩, .int .i64 0, .int .i64 0, .bool false, .int .i64 0, .string ⟨#[]⟩, .int .i64 0, .int .i64 0, .int .i64 0, .int .i64 0, .int .i64 0, .int .i64 0, .slice .none 0 0, .bool false, .int .i64 0, .int .i64 0] 46)).setRow w1.heap.size #[.int .i64 1, .int .i64 0, .int .i64 0, .int .i64 0, .int .i64 0, .int .i64 0, .int .i64 0, .int .i64 0, .int .i64 0, .int .i64 0, .int .i64 0, .string ⟨#[]⟩, .int .i64 0, .int .i64 0, .bool false, .int .i64 0, .string ⟨#[]⟩, .int .i64 0, .int .i64 0, .int .i64 0, .int .i64 0, .int .i64 0, .int .i64 0, .slice .none 0 0, .bool false, .int .i64 0, .int .i64 0] = w2 := ⟨_, rfl⟩
  have HQ := Lib.hid (show w2.heap[w1.heap.size]? = some (.cells #[.int .i64 1, .int .i64 0, .int .i64 0, .int .i64 0, .int .i64 0, .int .i64 0, .int .i64 0, .int .i64 0, .int .i64 0, .int .i64 0, .int .i64 0, .string ⟨#[]⟩, .int .i64 0, .int .i64 0, .bool false, .int .i64 0, .string ⟨#[]⟩, .int .i64 0, .int .i64 0, .int .i64 0, .int .i64 0, .int .i64 0, .int .i64 0, .slice .none 0 0, .bool false, .int .i64 0, .int .i64 0] 46 (0, 0)) from hw2 ▸ setRow_heap _ _ _ _ _ _ HQ1.out)
  have b12 : Below w1.heap.size w1 w2 := hw2 ▸ below_setRow (below_one w1 _) (Nat.le_refl _) #[.int .i64 1, .int .i64 0, .int .i64 0, .int .i64 0, .int .i64 0, .int .i64 0, .int .i64 0, .int .i64 0, .int .i64 0, .int .i64 0, .int .i64 0, .string ⟨#[]⟩, .int .i64 0, .int .i64 0, .bool false, .int .i64 0, .string ⟨#[]⟩, .int .i64 0, .int .i64 0, .int .i64 0, .int .i64 0, .int .i64 0, .int .i64 0, .slice .none 0 0, .bool false, .int .i64 0, .int .i64 0]
  have HP := Lib.hid (heap_keep HP1.out b12)
  have BW := B1.out.trans (b12.mono B1.out.size)
  have R := Lib.hid (M0.out.below BW)
  have TT := Lib.hid (show Turn (fun k => k = r ∨ p ≤ k) w w2 from Turn.of_below BW)
  rw [hw2]
  obtain ⟨q, hq⟩ : ∃ q, w1.heap.size = q := ⟨_, rfl⟩
  have PQ := Lib.hid (show p < q from by have h1 := LW.out; have h2 := HPH.out; omega)
  have RP := Lib.hid (show r < p from by have h1 := LR.out; have h2 := HPH.out; omega)
  have AP := Lib.hid (show 0 < n → ∀ q' o, a = some ⟨q', o, none⟩ → q' < p from fun h0 q' o e => by have h1 := AL.out h0 q' o e; have h2 := HPH.out; omega)
  rw [hq] at HQ
  try simp only [hq]
  clear hw2 b12 BW HP1 HQ1 M0 hq LW LR AL B1
  have D0 := Lib.hid (C0.out _ R.out)
  clear C0
  go_wp2_with fail
  with_reducible refine D0.out.mono ?_
  rintro e wa ⟨rfl, hM, hT⟩
  have hq1 := heap_turn HQ.out hT (by have := PQ.out; have := RP.out; omega)
  have HP' := Lib.hid (heap_turn HP.out hT (by have := RP.out; omega))
  have TT' := Lib.hid (TT.out.trans (turn_weak hT (fun k hk => Or.inl hk)))
  have hx := heap_cellI (i := 1) hq1 rfl
  have hf := heap_free (i := 1) hq1
  have R' := Lib.hid hM
  have HQ' := Lib.hid hq1
  clear hq1 hM hT R HQ HP TT D0
  go_upto_region 5 with fail
  have HQ := Lib.hid (show (wa.setCell ⟨q, 1, none⟩ (.int .i64 v0)).heap[q]? = some (.cells #[.int .i64 1, .int .i64 v0, .int .i64 0, .int .i64 0, .int .i64 0, .int .i64 0, .int .i64 0, .int .i64 0, .int .i64 0, .int .i64 0, .int .i64 0, .string ⟨#[]⟩, .int .i64 0, .int .i64 0, .bool false, .int .i64 0, .string ⟨#[]⟩, .int .i64 0, .int .i64 0, .int .i64 0, .int .i64 0, .int .i64 0, .int .i64 0, .slice .none 0 0, .bool false, .int .i64 0, .int .i64 0] 46 (0, 0)) from heap_set HQ'.out)
  have hts : Turn (fun k => k = q) wa (wa.setCell ⟨q, 1, none⟩ (.int .i64 v0)) := Turn.setCell rfl
  have HP := Lib.hid (heap_turn HP'.out hts (by have := PQ.out; omega))
  have R := Lib.hid (R'.out.fresh hts (by have := PQ.out; have := RP.out; omega) (fun h0 q' o e => by have := AP.out h0 q' o e; have := PQ.out; omega))
  have TT := Lib.hid (TT'.out.trans (turn_weak hts (fun k hk => Or.inr (by have := PQ.out; omega))))
  generalize wa.setCell ⟨q, 1, none⟩ (.int .i64 v0) = wb0 at HQ HP R TT ⊢
  clear hx hf hts HP' TT' R' HQ'
  have D1 := Lib.hid (C1.out _ R.out)
  clear C1
  go_wp2_with fail
  with_reducible refine D1.out.mono ?_
  rintro e wa ⟨rfl, hM, hT⟩
  have hq1 := heap_turn HQ.out hT (by have := PQ.out; have := RP.out; omega)
  have HP' := Lib.hid (heap_turn HP.out hT (by have := RP.out; omega))
  have TT' := Lib.hid (TT.out.trans (turn_weak hT (fun k hk => Or.inl hk)))
  have hx := heap_cellI (i := 2) hq1 rfl
  have hf := heap_free (i := 2) hq1
  have R' := Lib.hid hM
  have HQ' := Lib.hid hq1
  clear hq1 hM hT R HQ HP TT D1
  go_upto_region 38 with fail
  have HQ := Lib.hid (show (wa.setCell ⟨q, 2, none⟩ (.int .i64 v1)).heap[q]? = some (.cells #[.int .i64 1, .int .i64 v0, .int .i64 v1, .int .i64 0, .int .i64 0, .int .i64 0, .int .i64 0, .int .i64 0, .int .i64 0, .int .i64 0, .int .i64 0, .string ⟨#[]⟩, .int .i64 0, .int .i64 0, .bool false, .int .i64 0, .string ⟨#[]⟩, .int .i64 0, .int .i64 0, .int .i64 0, .int .i64 0, .int .i64 0, .int .i64 0, .slice .none 0 0, .bool false, .int .i64 0, .int .i64 0] 46 (0, 0)) from heap_set HQ'.out)
  have hts : Turn (fun k => k = q) wa (wa.setCell ⟨q, 2, none⟩ (.int .i64 v1)) := Turn.setCell rfl
  have HP := Lib.hid (heap_turn HP'.out hts (by have := PQ.out; omega))
  have R := Lib.hid (R'.out.fresh hts (by have := PQ.out; have := RP.out; omega) (fun h0 q' o e => by have := AP.out h0 q' o e; have := PQ.out; omega))
  have TT := Lib.hid (TT'.out.trans (turn_weak hts (fun k hk => Or.inr (by have := PQ.out; omega))))
  generalize wa.setCell ⟨q, 2, none⟩ (.int .i64 v1) = wb1 at HQ HP R TT ⊢
  clear hx hf hts HP' TT' R' HQ'
  go_wp2_with (first | (refine wpList_load_row rfl 46 (.tmp 5) rfl q rfl 46 #[.int .i64 1, .int .i64 v0, .int .i64 v1, .int .i64 0, .int .i64 0, .int .i64 0, .int .i64 0, .int .i64 0, .int .i64 0, .int .i64 0, .int .i64 0, .string ⟨#[]⟩, .int .i64 0, .int .i64 0, .bool false, .int .i64 0, .string ⟨#[]⟩, .int .i64 0, .int .i64 0, .int .i64 0, .int .i64 0, .int .i64 0, .int .i64 0, .slice .none 0 0, .bool false, .int .i64 0, .int .i64 0] (0, 0) _ HQ.out Try.underlying46 rfl (by kernel_rfl) ?_) | (refine wpList_store_row rfl 46 (.tmp 4) (.tmp 118) rfl p #[.int .i64 1, .int .i64 v0, .int .i64 v1, .int .i64 0, .int .i64 0, .int .i64 0, .int .i64 0, .int .i64 0, .int .i64 0, .int .i64 0, .int .i64 0, .string ⟨#[]⟩, .int .i64 0, .int .i64 0, .bool false, .int .i64 0, .string ⟨#[]⟩, .int .i64 0, .int .i64 0, .int .i64 0, .int .i64 0, .int .i64 0, .int .i64 0, .slice .none 0 0, .bool false, .int .i64 0, .int .i64 0] rfl rfl 46 #[.int .i64 0, .int .i64 0, .int .i64 0, .int .i64 0, .int .i64 0, .int .i64 0, .int .i64 0, .int .i64 0, .int .i64 0, .int .i64 0, .int .i64 0, .string ⟨#[]⟩, .int .i64 0, .int .i64 0, .bool false, .int .i64 0, .string ⟨#[]⟩, .int .i64 0, .int .i64 0, .int .i64 0, .int .i64 0, .int .i64 0, .int .i64 0, .slice .none 0 0, .bool false, .int .i64 0, .int .i64 0] HP.out (by kernel_rfl) rfl (by simp [Value.oneCell']) ?_) | fail)
  (try simp only [Exit.inBlock, Exit.then])
  refine bodyPost_ret (results_cell_row rfl _ _ p 46 #[.int .i64 1, .int .i64 v0, .int .i64 v1, .int .i64 0, .int .i64 0, .int .i64 0, .int .i64 0, .int .i64 0, .int .i64 0, .int .i64 0, .int .i64 0, .string ⟨#[]⟩, .int .i64 0, .int .i64 0, .bool false, .int .i64 0, .string ⟨#[]⟩, .int .i64 0, .int .i64 0, .int .i64 0, .int .i64 0, .int .i64 0, .int .i64 0, .slice .none 0 0, .bool false, .int .i64 0, .int .i64 0] (0, 0) _ rfl (setRow_heap _ p _ _ _ _ HP.out) Try.underlying46 rfl (by kernel_rfl)) rfl ?_
  have PL := (Array.getElem?_eq_some_iff.1 HP.out).1
  have bb := below_setRow (Below.refl p wb1) (Nat.le_refl p) #[.int .i64 1, .int .i64 v0, .int .i64 v1, .int .i64 0, .int .i64 0, .int .i64 0, .int .i64 0, .int .i64 0, .int .i64 0, .int .i64 0, .int .i64 0, .string ⟨#[]⟩, .int .i64 0, .int .i64 0, .bool false, .int .i64 0, .string ⟨#[]⟩, .int .i64 0, .int .i64 0, .int .i64 0, .int .i64 0, .int .i64 0, .int .i64 0, .slice .none 0 0, .bool false, .int .i64 0, .int .i64 0]
  refine ⟨rfl, R.out.old bb (by omega) RP.out AP.out, ?_⟩
  rw [HPH.out]
  exact TT.out.trans (turn_weak (turn_above bb) (fun k hk => Or.inr hk))
set_option maxHeartbeats 6400000 in
theorem dRead_Grant {r : Nat} {a : Option Addr} {n cap : Nat} {bs : List Nat} {s : RS} (w : World) (h : RdS r a n cap bs s w) :
    Calls Try.prog 51 #[.pointer (some ⟨r, 0, none⟩), .int .i64 2] w (DReadP r a n cap bs (dNum n 4 (dNum n 4 (dNum n 4 s))) w (.agg #[.int .i64 2, .int .i64 0, .int .i64 0, .int .i64 (dG bs n 4 s), .int .i64 (dG bs n 4 (dNum n 4 s)), .int .i64 (dG bs n 4 (dNum n 4 (dNum n 4 s))), .int .i64 0, .int .i64 0, .int .i64 0, .int .i64 0, .int .i64 0, .string ⟨#[]⟩, .int .i64 0, .int .i64 0, .bool false, .int .i64 0, .string ⟨#[]⟩, .int .i64 0, .int .i64 0, .int .i64 0, .int .i64 0, .int .i64 0, .int .i64 0, .slice .none 0 0, .bool false, .int .i64 0, .int .i64 0])) := by
  obtain ⟨v0, hv0⟩ : ∃ v, dG bs n 4 s = v := ⟨_, rfl⟩
  obtain ⟨s1, hs1⟩ : ∃ t, dNum n 4 s = t := ⟨_, rfl⟩
  have C0 := Lib.hid (fun w' (h : RdS r a n cap bs s w') => dsNum 4 4 rfl (by omega) (by omega) w' h)
  rw [hv0, hs1] at C0
  obtain ⟨v1, hv1⟩ : ∃ v, dG bs n 4 s1 = v := ⟨_, rfl⟩
  obtain ⟨s2, hs2⟩ : ∃ t, dNum n 4 s1 = t := ⟨_, rfl⟩
  have C1 := Lib.hid (fun w' (h : RdS r a n cap bs s1 w') => dsNum 4 4 rfl (by omega) (by omega) w' h)
  rw [hv1, hs2] at C1
  obtain ⟨v2, hv2⟩ : ∃ v, dG bs n 4 s2 = v := ⟨_, rfl⟩
  obtain ⟨s3, hs3⟩ : ∃ t, dNum n 4 s2 = t := ⟨_, rfl⟩
  have C2 := Lib.hid (fun w' (h : RdS r a n cap bs s2 w') => dsNum 4 4 rfl (by omega) (by omega) w' h)
  rw [hv2, hs3] at C2
  try rw [hs1]
  try rw [hs2]
  try rw [hs3]
  try rw [hv0]
  try rw [hv1]
  try rw [hv2]
  have LR := Lib.hid (lt_of_cell h.m.c0)
  have AL := Lib.hid (show 0 < n → ∀ q o, a = some ⟨q, o, none⟩ → q < w.heap.size from fun h0 => h.lt h0)
  obtain ⟨w1, hw1⟩ : ∃ w1, w.alloc (.cells #[.int .i64 0, .int .i64 0, .int .i64 0, .int .i64 0, .int .i64 0, .int .i64 0, .int .i64 0, .int .i64 0, .int .i64 0, .int .i64 0, .int .i64 0, .string ⟨#[]⟩, .int .i64 0, .int .i64 0, .bool false, .int .i64 0, .string ⟨#[]⟩, .int .i64 0, .int .i64 0, .int .i64 0, .int .i64 0, .int .i64 0, .int .i64 0, .slice .none 0 0, .bool false, .int .i64 0, .int .i64 0] 46) = w1 := ⟨_, rfl⟩
  have HP1 := Lib.hid (show w1.heap[w.heap.size]? = some (.cells #[.int .i64 0, .int .i64 0, .int .i64 0, .int .i64 0, .int .i64 0, .int .i64 0, .int .i64 0, .int .i64 0, .int .i64 0, .int .i64 0, .int .i64 0, .string ⟨#[]⟩, .int .i64 0, .int .i64 0, .bool false, .int .i64 0, .string ⟨#[]⟩, .int .i64 0, .int .i64 0, .int .i64 0, .int .i64 0, .int .i64 0, .int .i64 0, .slice .none 0 0, .bool false, .int .i64 0, .int .i64 0] 46 (0, 0)) from hw1 ▸ heap_alloc_new w _)
  have B1 := Lib.hid (show Below w.heap.size w w1 from hw1 ▸ below_one w _)
  have LW := Lib.hid (show w.heap.size < w1.heap.size from (Array.getElem?_eq_some_iff.1 HP1.out).1)
  have HQ1 := Lib.hid (heap_alloc_new w1 (.cells #[.int .i64 0, .int .i64 0, .int .i64 0, .int .i64 0, .int .i64 0, .int .i64 0, .int .i64 0, .int .i64 0, .int .i64 0, .int .i64 0, .int .i64 0, .string ⟨#[]⟩, .int .i64 0, .int .i64 0, .bool false, .int .i64 0, .string ⟨#[]⟩, .int .i64 0, .int .i64 0, .int .i64 0, .int .i64 0, .int .i64 0, .int .i64 0, .slice .none 0 0, .bool false, .int .i64 0, .int .i64 0] 46))
  obtain ⟨p, hp⟩ : ∃ p, w.heap.size = p := ⟨_, rfl⟩
  have HPH := Lib.hid hp
  rw [hp] at HP1
  have M0 := Lib.hid h
  clear h hv0 hs1 hv1 hs2 hv2 hs3
  go_enter Try.func51, Try.ntmps51
  go_upto_region 1 with fail
  try rw [hw1]
  try simp only [hp]
  clear hw1 hp
  go_upto_region 2 with (first | (refine wpList_store_row rfl 46 (.tmp 5) (.tmp 9) rfl w1.heap.size #[.int .i64 2, .int .i64 0, .int .i64 0, .int .i64 0, .int .i64 0, .int .i64 0, .int .i64 0, .int .i64 0, .int .i64 0, .int .i64 0, .int .i64 0, .string ⟨#[]⟩, .int .i64 0, .int .i64 0, .bool false, .int .i64 0, .string ⟨#[]⟩, .int .i64 0, .int .i64 0, .int .i64 0, .int .i64 0, .int .i64 0, .int .i64 0, .slice .none 0 0, .bool false, .int .i64 0, .int .i64 0] rfl rfl 46 #[.int .i64 0, .int .i64 0, .int .i64 0, .int .i64 0, .int .i64 0, .int .i64 0, .int .i64 0, .int .i64 0, .int .i64 0, .int .i64 0, .int .i64 0, .string ⟨#[]⟩, .int .i64 0, .int .i64 0, .bool false, .int .i64 0, .string ⟨#[]⟩, .int .i64 0, .int .i64 0, .int .i64 0, .int .i64 0, .int .i64 0, .int .i64 0, .slice .none 0 0, .bool false, .int .i64 0, .int .i64 0] HQ1.out (by kernel_rfl) rfl (by simp [Value.oneCell']) ?_) | fail)
  obtain ⟨w2, hw2⟩ : ∃ w2, (w1.alloc (.cells #[.int .i64 0, .int .i64 0, .int .i64 0, .int .i64 0, .int .i64 0, .int .i64 0, .int .i64 0, .int .i64 0, .int .i64 0, .int .i64 0, .int .i64 0, .string ⟨#[]⟩, .int .i64 0, .int .i64 0, .bool false, .int .i64 0, .string ⟨#[]⟩, .int .i64 0, .int .i64 0, .int .i64 0, .int .i64 0, .int .i64 0, .int .i64 0, .slice .none 0 0, .bool false, .int .i64 0, .int .i64 0] 46)).setRow w1.heap.size #[.int .i64 2, .int .i64 0, .int .i64 0, .int .i64 0, .int .i64 0, .int .i64 0, .int .i64 0, .int .i64 0, .int .i64 0, .int .i64 0, .int .i64 0, .string ⟨#[]⟩, .int .i64 0, .int .i64 0, .bool false, .int .i64 0, .string ⟨#[]⟩, .int .i64 0, .int .i64 0, .int .i64 0, .int .i64 0, .int .i64 0, .int .i64 0, .slice .none 0 0, .bool false, .int .i64 0, .int .i64 0] = w2 := ⟨_, rfl⟩
  have HQ := Lib.hid (show w2.heap[w1.heap.size]? = some (.cells #[.int .i64 2, .int .i64 0, .int .i64 0, .int .i64 0, .int .i64 0, .int .i64 0, .int .i64 0, .int .i64 0, .int .i64 0, .int .i64 0, .int .i64 0, .string ⟨#[]⟩, .int .i64 0, .int .i64 0, .bool false, .int .i64 0, .string ⟨#[]⟩, .int .i64 0, .int .i64 0, .int .i64 0, .int .i64 0, .int .i64 0, .int .i64 0, .slice .none 0 0, .bool false, .int .i64 0, .int .i64 0] 46 (0, 0)) from hw2 ▸ setRow_heap _ _ _ _ _ _ HQ1.out)
  have b12 : Below w1.heap.size w1 w2 := hw2 ▸ below_setRow (below_one w1 _) (Nat.le_refl _) #[.int .i64 2, .int .i64 0, .int .i64 0, .int .i64 0, .int .i64 0, .int .i64 0, .int .i64 0, .int .i64 0, .int .i64 0, .int .i64 0, .int .i64 0, .string ⟨#[]⟩, .int .i64 0, .int .i64 0, .bool false, .int .i64 0, .string ⟨#[]⟩, .int .i64 0, .int .i64 0, .int .i64 0, .int .i64 0, .int .i64 0, .int .i64 0, .slice .none 0 0, .bool false, .int .i64 0, .int .i64 0]
  have HP := Lib.hid (heap_keep HP1.out b12)
  have BW := B1.out.trans (b12.mono B1.out.size)
  have R := Lib.hid (M0.out.below BW)
  have TT := Lib.hid (show Turn (fun k => k = r ∨ p ≤ k) w w2 from Turn.of_below BW)
  rw [hw2]
  obtain ⟨q, hq⟩ : ∃ q, w1.heap.size = q := ⟨_, rfl⟩
  have PQ := Lib.hid (show p < q from by have h1 := LW.out; have h2 := HPH.out; omega)
  have RP := Lib.hid (show r < p from by have h1 := LR.out; have h2 := HPH.out; omega)
  have AP := Lib.hid (show 0 < n → ∀ q' o, a = some ⟨q', o, none⟩ → q' < p from fun h0 q' o e => by have h1 := AL.out h0 q' o e; have h2 := HPH.out; omega)
  rw [hq] at HQ
  try simp only [hq]
  clear hw2 b12 BW HP1 HQ1 M0 hq LW LR AL B1
  have D0 := Lib.hid (C0.out _ R.out)
  clear C0
  go_wp2_with fail
  with_reducible refine D0.out.mono ?_
  rintro e wa ⟨rfl, hM, hT⟩
  have hq1 := heap_turn HQ.out hT (by have := PQ.out; have := RP.out; omega)
  have HP' := Lib.hid (heap_turn HP.out hT (by have := RP.out; omega))
  have TT' := Lib.hid (TT.out.trans (turn_weak hT (fun k hk => Or.inl hk)))
  have hx := heap_cellI (i := 3) hq1 rfl
  have hf := heap_free (i := 3) hq1
  have R' := Lib.hid hM
  have HQ' := Lib.hid hq1
  clear hq1 hM hT R HQ HP TT D0
  go_upto_region 8 with fail
  have HQ := Lib.hid (show (wa.setCell ⟨q, 3, none⟩ (.int .i64 v0)).heap[q]? = some (.cells #[.int .i64 2, .int .i64 0, .int .i64 0, .int .i64 v0, .int .i64 0, .int .i64 0, .int .i64 0, .int .i64 0, .int .i64 0, .int .i64 0, .int .i64 0, .string ⟨#[]⟩, .int .i64 0, .int .i64 0, .bool false, .int .i64 0, .string ⟨#[]⟩, .int .i64 0, .int .i64 0, .int .i64 0, .int .i64 0, .int .i64 0, .int .i64 0, .slice .none 0 0, .bool false, .int .i64 0, .int .i64 0] 46 (0, 0)) from heap_set HQ'.out)
  have hts : Turn (fun k => k = q) wa (wa.setCell ⟨q, 3, none⟩ (.int .i64 v0)) := Turn.setCell rfl
  have HP := Lib.hid (heap_turn HP'.out hts (by have := PQ.out; omega))
  have R := Lib.hid (R'.out.fresh hts (by have := PQ.out; have := RP.out; omega) (fun h0 q' o e => by have := AP.out h0 q' o e; have := PQ.out; omega))
  have TT := Lib.hid (TT'.out.trans (turn_weak hts (fun k hk => Or.inr (by have := PQ.out; omega))))
  generalize wa.setCell ⟨q, 3, none⟩ (.int .i64 v0) = wb0 at HQ HP R TT ⊢
  clear hx hf hts HP' TT' R' HQ'
  have D1 := Lib.hid (C1.out _ R.out)
  clear C1
  go_wp2_with fail
  with_reducible refine D1.out.mono ?_
  rintro e wa ⟨rfl, hM, hT⟩
  have hq1 := heap_turn HQ.out hT (by have := PQ.out; have := RP.out; omega)
  have HP' := Lib.hid (heap_turn HP.out hT (by have := RP.out; omega))
  have TT' := Lib.hid (TT.out.trans (turn_weak hT (fun k hk => Or.inl hk)))
  have hx := heap_cellI (i := 4) hq1 rfl
  have hf := heap_free (i := 4) hq1
  have R' := Lib.hid hM
  have HQ' := Lib.hid hq1
  clear hq1 hM hT R HQ HP TT D1
  go_upto_region 9 with fail
  have HQ := Lib.hid (show (wa.setCell ⟨q, 4, none⟩ (.int .i64 v1)).heap[q]? = some (.cells #[.int .i64 2, .int .i64 0, .int .i64 0, .int .i64 v0, .int .i64 v1, .int .i64 0, .int .i64 0, .int .i64 0, .int .i64 0, .int .i64 0, .int .i64 0, .string ⟨#[]⟩, .int .i64 0, .int .i64 0, .bool false, .int .i64 0, .string ⟨#[]⟩, .int .i64 0, .int .i64 0, .int .i64 0, .int .i64 0, .int .i64 0, .int .i64 0, .slice .none 0 0, .bool false, .int .i64 0, .int .i64 0] 46 (0, 0)) from heap_set HQ'.out)
  have hts : Turn (fun k => k = q) wa (wa.setCell ⟨q, 4, none⟩ (.int .i64 v1)) := Turn.setCell rfl
  have HP := Lib.hid (heap_turn HP'.out hts (by have := PQ.out; omega))
  have R := Lib.hid (R'.out.fresh hts (by have := PQ.out; have := RP.out; omega) (fun h0 q' o e => by have := AP.out h0 q' o e; have := PQ.out; omega))
  have TT := Lib.hid (TT'.out.trans (turn_weak hts (fun k hk => Or.inr (by have := PQ.out; omega))))
  generalize wa.setCell ⟨q, 4, none⟩ (.int .i64 v1) = wb1 at HQ HP R TT ⊢
  clear hx hf hts HP' TT' R' HQ'
  have D2 := Lib.hid (C2.out _ R.out)
  clear C2
  go_wp2_with fail
  with_reducible refine D2.out.mono ?_
  rintro e wa ⟨rfl, hM, hT⟩
  have hq1 := heap_turn HQ.out hT (by have := PQ.out; have := RP.out; omega)
  have HP' := Lib.hid (heap_turn HP.out hT (by have := RP.out; omega))
  have TT' := Lib.hid (TT.out.trans (turn_weak hT (fun k hk => Or.inl hk)))
  have hx := heap_cellI (i := 5) hq1 rfl
  have hf := heap_free (i := 5) hq1
  have R' := Lib.hid hM
  have HQ' := Lib.hid hq1
  clear hq1 hM hT R HQ HP TT D2
  go_upto_region 38 with fail
  have HQ := Lib.hid (show (wa.setCell ⟨q, 5, none⟩ (.int .i64 v2)).heap[q]? = some (.cells #[.int .i64 2, .int .i64 0, .int .i64 0, .int .i64 v0, .int .i64 v1, .int .i64 v2, .int .i64 0, .int .i64 0, .int .i64 0, .int .i64 0, .int .i64 0, .string ⟨#[]⟩, .int .i64 0, .int .i64 0, .bool false, .int .i64 0, .string ⟨#[]⟩, .int .i64 0, .int .i64 0, .int .i64 0, .int .i64 0, .int .i64 0, .int .i64 0, .slice .none 0 0, .bool false, .int .i64 0, .int .i64 0] 46 (0, 0)) from heap_set HQ'.out)
  have hts : Turn (fun k => k = q) wa (wa.setCell ⟨q, 5, none⟩ (.int .i64 v2)) := Turn.setCell rfl
  have HP := Lib.hid (heap_turn HP'.out hts (by have := PQ.out; omega))
  have R := Lib.hid (R'.out.fresh hts (by have := PQ.out; have := RP.out; omega) (fun h0 q' o e => by have := AP.out h0 q' o e; have := PQ.out; omega))
  have TT := Lib.hid (TT'.out.trans (turn_weak hts (fun k hk => Or.inr (by have := PQ.out; omega))))
  generalize wa.setCell ⟨q, 5, none⟩ (.int .i64 v2) = wb2 at HQ HP R TT ⊢
  clear hx hf hts HP' TT' R' HQ'
  go_wp2_with (first | (refine wpList_load_row rfl 46 (.tmp 5) rfl q rfl 46 #[.int .i64 2, .int .i64 0, .int .i64 0, .int .i64 v0, .int .i64 v1, .int .i64 v2, .int .i64 0, .int .i64 0, .int .i64 0, .int .i64 0, .int .i64 0, .string ⟨#[]⟩, .int .i64 0, .int .i64 0, .bool false, .int .i64 0, .string ⟨#[]⟩, .int .i64 0, .int .i64 0, .int .i64 0, .int .i64 0, .int .i64 0, .int .i64 0, .slice .none 0 0, .bool false, .int .i64 0, .int .i64 0] (0, 0) _ HQ.out Try.underlying46 rfl (by kernel_rfl) ?_) | (refine wpList_store_row rfl 46 (.tmp 4) (.tmp 118) rfl p #[.int .i64 2, .int .i64 0, .int .i64 0, .int .i64 v0, .int .i64 v1, .int .i64 v2, .int .i64 0, .int .i64 0, .int .i64 0, .int .i64 0, .int .i64 0, .string ⟨#[]⟩, .int .i64 0, .int .i64 0, .bool false, .int .i64 0, .string ⟨#[]⟩, .int .i64 0, .int .i64 0, .int .i64 0, .int .i64 0, .int .i64 0, .int .i64 0, .slice .none 0 0, .bool false, .int .i64 0, .int .i64 0] rfl rfl 46 #[.int .i64 0, .int .i64 0, .int .i64 0, .int .i64 0, .int .i64 0, .int .i64 0, .int .i64 0, .int .i64 0, .int .i64 0, .int .i64 0, .int .i64 0, .string ⟨#[]⟩, .int .i64 0, .int .i64 0, .bool false, .int .i64 0, .string ⟨#[]⟩, .int .i64 0, .int .i64 0, .int .i64 0, .int .i64 0, .int .i64 0, .int .i64 0, .slice .none 0 0, .bool false, .int .i64 0, .int .i64 0] HP.out (by kernel_rfl) rfl (by simp [Value.oneCell']) ?_) | fail)
  (try simp only [Exit.inBlock, Exit.then])
  refine bodyPost_ret (results_cell_row rfl _ _ p 46 #[.int .i64 2, .int .i64 0, .int .i64 0, .int .i64 v0, .int .i64 v1, .int .i64 v2, .int .i64 0, .int .i64 0, .int .i64 0, .int .i64 0, .int .i64 0, .string ⟨#[]⟩, .int .i64 0, .int .i64 0, .bool false, .int .i64 0, .string ⟨#[]⟩, .int .i64 0, .int .i64 0, .int .i64 0, .int .i64 0, .int .i64 0, .int .i64 0, .slice .none 0 0, .bool false, .int .i64 0, .int .i64 0] (0, 0) _ rfl (setRow_heap _ p _ _ _ _ HP.out) Try.underlying46 rfl (by kernel_rfl)) rfl ?_
  have PL := (Array.getElem?_eq_some_iff.1 HP.out).1
  have bb := below_setRow (Below.refl p wb2) (Nat.le_refl p) #[.int .i64 2, .int .i64 0, .int .i64 0, .int .i64 v0, .int .i64 v1, .int .i64 v2, .int .i64 0, .int .i64 0, .int .i64 0, .int .i64 0, .int .i64 0, .string ⟨#[]⟩, .int .i64 0, .int .i64 0, .bool false, .int .i64 0, .string ⟨#[]⟩, .int .i64 0, .int .i64 0, .int .i64 0, .int .i64 0, .int .i64 0, .int .i64 0, .slice .none 0 0, .bool false, .int .i64 0, .int .i64 0]
  refine ⟨rfl, R.out.old bb (by omega) RP.out AP.out, ?_⟩
  rw [HPH.out]
  exact TT.out.trans (turn_weak (turn_above bb) (fun k hk => Or.inr hk))
set_option maxHeartbeats 6400000 in
theorem dRead_Stop {r : Nat} {a : Option Addr} {n cap : Nat} {bs : List Nat} {s : RS} (w : World) (h : RdS r a n cap bs s w) :
    Calls Try.prog 51 #[.pointer (some ⟨r, 0, none⟩), .int .i64 5] w (DReadP r a n cap bs (dNum n 4 (dNum n 4 s)) w (.agg #[.int .i64 5, .int .i64 0, .int .i64 0, .int .i64 0, .int .i64 0, .int .i64 0, .int .i64 0, .int .i64 0, .int .i64 0, .int .i64 0, .int .i64 0, .string ⟨#[]⟩, .int .i64 0, .int .i64 0, .bool false, .int .i64 0, .string ⟨#[]⟩, .int .i64 0, .int .i64 0, .int .i64 0, .int .i64 0, .int .i64 0, .int .i64 0, .slice .none 0 0, .bool false, .int .i64 (dG bs n 4 s), .int .i64 (dG bs n 4 (dNum n 4 s))])) := by
  obtain ⟨v0, hv0⟩ : ∃ v, dG bs n 4 s = v := ⟨_, rfl⟩
  obtain ⟨s1, hs1⟩ : ∃ t, dNum n 4 s = t := ⟨_, rfl⟩
  have C0 := Lib.hid (fun w' (h : RdS r a n cap bs s w') => dsNum 4 4 rfl (by omega) (by omega) w' h)
  rw [hv0, hs1] at C0
  obtain ⟨v1, hv1⟩ : ∃ v, dG bs n 4 s1 = v := ⟨_, rfl⟩
  obtain ⟨s2, hs2⟩ : ∃ t, dNum n 4 s1 = t := ⟨_, rfl⟩
  have C1 := Lib.hid (fun w' (h : RdS r a n cap bs s1 w') => dsNum 4 4 rfl (by omega) (by omega) w' h)
  rw [hv1, hs2] at C1
  try rw [hs1]
  try rw [hs2]
  try rw [hv0]
  try rw [hv1]
  have LR := Lib.hid (lt_of_cell h.m.c0)
  have AL := Lib.hid (show 0 < n → ∀ q o, a = some ⟨q, o, none⟩ → q < w.heap.size from fun h0 => h.lt h0)
  obtain ⟨w1, hw1⟩ : ∃ w1, w.alloc (.cells #[.int .i64 0, .int .i64 0, .int .i64 0, .int .i64 0, .int .i64 0, .int .i64 0, .int .i64 0, .int .i64 0, .int .i64 0, .int .i64 0, .int .i64 0, .string ⟨#[]⟩, .int .i64 0, .int .i64 0, .bool false, .int .i64 0, .string ⟨#[]⟩, .int .i64 0, .int .i64 0, .int .i64 0, .int .i64 0, .int .i64 0, .int .i64 0, .slice .none 0 0, .bool false, .int .i64 0, .int .i64 0] 46) = w1 := ⟨_, rfl⟩
  have HP1 := Lib.hid (show w1.heap[w.heap.size]? = some (.cells #[.int .i64 0, .int .i64 0, .int .i64 0, .int .i64 0, .int .i64 0, .int .i64 0, .int .i64 0, .int .i64 0, .int .i64 0, .int .i64 0, .int .i64 0, .string ⟨#[]⟩, .int .i64 0, .int .i64 0, .bool false, .int .i64 0, .string ⟨#[]⟩, .int .i64 0, .int .i64 0, .int .i64 0, .int .i64 0, .int .i64 0, .int .i64 0, .slice .none 0 0, .bool false, .int .i64 0, .int .i64 0] 46 (0, 0)) from hw1 ▸ heap_alloc_new w _)
  have B1 := Lib.hid (show Below w.heap.size w w1 from hw1 ▸ below_one w _)
  have LW := Lib.hid (show w.heap.size < w1.heap.size from (Array.getElem?_eq_some_iff.1 HP1.out).1)
  have HQ1 := Lib.hid (heap_alloc_new w1 (.cells #[.int .i64 0, .int .i64 0, .int .i64 0, .int .i64 0, .int .i64 0, .int .i64 0, .int .i64 0, .int .i64 0, .int .i64 0, .int .i64 0, .int .i64 0, .string ⟨#[]⟩, .int .i64 0, .int .i64 0, .bool false, .int .i64 0, .string ⟨#[]⟩, .int .i64 0, .int .i64 0, .int .i64 0, .int .i64 0, .int .i64 0, .int .i64 0, .slice .none 0 0, .bool false, .int .i64 0, .int .i64 0] 46))
  obtain ⟨p, hp⟩ : ∃ p, w.heap.size = p := ⟨_, rfl⟩
  have HPH := Lib.hid hp
  rw [hp] at HP1
  have M0 := Lib.hid h
  clear h hv0 hs1 hv1 hs2
  go_enter Try.func51, Try.ntmps51
  go_upto_region 1 with fail
  try rw [hw1]
  try simp only [hp]
  clear hw1 hp
  go_upto_region 2 with (first | (refine wpList_store_row rfl 46 (.tmp 5) (.tmp 9) rfl w1.heap.size #[.int .i64 5, .int .i64 0, .int .i64 0, .int .i64 0, .int .i64 0, .int .i64 0, .int .i64 0, .int .i64 0, .int .i64 0, .int .i64 0, .int .i64 0, .string ⟨#[]⟩, .int .i64 0, .int .i64 0, .bool false, .int .i64 0, .string ⟨#[]⟩, .int .i64 0, .int .i64 0, .int .i64 0, .int .i64 0, .int .i64 0, .int .i64 0, .slice .none 0 0, .bool false, .int .i64 0, .int .i64 0] rfl rfl 46 #[.int .i64 0, .int .i64 0, .int .i64 0, .int .i64 0, .int .i64 0, .int .i64 0, .int .i64 0, .int .i64 0, .int .i64 0, .int .i64 0, .int .i64 0, .string ⟨#[]⟩, .int .i64 0, .int .i64 0, .bool false, .int .i64 0, .string ⟨#[]⟩, .int .i64 0, .int .i64 0, .int .i64 0, .int .i64 0, .int .i64 0, .int .i64 0, .slice .none 0 0, .bool false, .int .i64 0, .int .i64 0] HQ1.out (by kernel_rfl) rfl (by simp [Value.oneCell']) ?_) | fail)
  obtain ⟨w2, hw2⟩ : ∃ w2, (w1.alloc (.cells #[.int .i64 0, .int .i64 0, .int .i64 0, .int .i64 0, .int .i64 0, .int .i64 0, .int .i64 0, .int .i64 0, .int .i64 0, .int .i64 0, .int .i64 0, .string ⟨#[]⟩, .int .i64 0, .int .i64 0, .bool false, .int .i64 0, .string ⟨#[]⟩, .int .i64 0, .int .i64 0, .int .i64 0, .int .i64 0, .int .i64 0, .int .i64 0, .slice .none 0 0, .bool false, .int .i64 0, .int .i64 0] 46)).setRow w1.heap.size #[.int .i64 5, .int .i64 0, .int .i64 0, .int .i64 0, .int .i64 0, .int .i64 0, .int .i64 0, .int .i64 0, .int .i64 0, .int .i64 0, .int .i64 0, .string ⟨#[]⟩, .int .i64 0, .int .i64 0, .bool false, .int .i64 0, .string ⟨#[]⟩, .int .i64 0, .int .i64 0, .int .i64 0, .int .i64 0, .int .i64 0, .int .i64 0, .slice .none 0 0, .bool false, .int .i64 0, .int .i64 0] = w2 := ⟨_, rfl⟩
  have HQ := Lib.hid (show w2.heap[w1.heap.size]? = some (.cells #[.int .i64 5, .int .i64 0, .int .i64 0, .int .i64 0, .int .i64 0, .int .i64 0, .int .i64 0, .int .i64 0, .int .i64 0, .int .i64 0, .int .i64 0, .string ⟨#[]⟩, .int .i64 0, .int .i64 0, .bool false, .int .i64 0, .string ⟨#[]⟩, .int .i64 0, .int .i64 0, .int .i64 0, .int .i64 0, .int .i64 0, .int .i64 0, .slice .none 0 0, .bool false, .int .i64 0, .int .i64 0] 46 (0, 0)) from hw2 ▸ setRow_heap _ _ _ _ _ _ HQ1.out)
  have b12 : Below w1.heap.size w1 w2 := hw2 ▸ below_setRow (below_one w1 _) (Nat.le_refl _) #[.int .i64 5, .int .i64 0, .int .i64 0, .int .i64 0, .int .i64 0, .int .i64 0, .int .i64 0, .int .i64 0, .int .i64 0, .int .i64 0, .int .i64 0, .string ⟨#[]⟩, .int .i64 0, .int .i64 0, .bool false, .int .i64 0, .string ⟨#[]⟩, .int .i64 0, .int .i64 0, .int .i64 0, .int .i64 0, .int .i64 0, .int .i64 0, .slice .none 0 0, .bool false, .int .i64 0, .int .i64 0]
  have HP := Lib.hid (heap_keep HP1.out b12)
  have BW := B1.out.trans (b12.mono B1.out.size)
  have R := Lib.hid (M0.out.below BW)
  have TT := Lib.hid (show Turn (fun k => k = r ∨ p ≤ k) w w2 from Turn.of_below BW)
  rw [hw2]
  obtain ⟨q, hq⟩ : ∃ q, w1.heap.size = q := ⟨_, rfl⟩
  have PQ := Lib.hid (show p < q from by have h1 := LW.out; have h2 := HPH.out; omega)
  have RP := Lib.hid (show r < p from by have h1 := LR.out; have h2 := HPH.out; omega)
  have AP := Lib.hid (show 0 < n → ∀ q' o, a = some ⟨q', o, none⟩ → q' < p from fun h0 q' o e => by have h1 := AL.out h0 q' o e; have h2 := HPH.out; omega)
  rw [hq] at HQ
  try simp only [hq]
  clear hw2 b12 BW HP1 HQ1 M0 hq LW LR AL B1
  have D0 := Lib.hid (C0.out _ R.out)
  clear C0
  go_wp2_with fail
  with_reducible refine D0.out.mono ?_
  rintro e wa ⟨rfl, hM, hT⟩
  have hq1 := heap_turn HQ.out hT (by have := PQ.out; have := RP.out; omega)
  have HP' := Lib.hid (heap_turn HP.out hT (by have := RP.out; omega))
  have TT' := Lib.hid (TT.out.trans (turn_weak hT (fun k hk => Or.inl hk)))
  have hx := heap_cellI (i := 25) hq1 rfl
  have hf := heap_free (i := 25) hq1
  have R' := Lib.hid hM
  have HQ' := Lib.hid hq1
  clear hq1 hM hT R HQ HP TT D0
  go_upto_region 37 with fail
  have HQ := Lib.hid (show (wa.setCell ⟨q, 25, none⟩ (.int .i64 v0)).heap[q]? = some (.cells #[.int .i64 5, .int .i64 0, .int .i64 0, .int .i64 0, .int .i64 0, .int .i64 0, .int .i64 0, .int .i64 0, .int .i64 0, .int .i64 0, .int .i64 0, .string ⟨#[]⟩, .int .i64 0, .int .i64 0, .bool false, .int .i64 0, .string ⟨#[]⟩, .int .i64 0, .int .i64 0, .int .i64 0, .int .i64 0, .int .i64 0, .int .i64 0, .slice .none 0 0, .bool false, .int .i64 v0, .int .i64 0] 46 (0, 0)) from heap_set HQ'.out)
  have hts : Turn (fun k => k = q) wa (wa.setCell ⟨q, 25, none⟩ (.int .i64 v0)) := Turn.setCell rfl
  have HP := Lib.hid (heap_turn HP'.out hts (by have := PQ.out; omega))
  have R := Lib.hid (R'.out.fresh hts (by have := PQ.out; have := RP.out; omega) (fun h0 q' o e => by have := AP.out h0 q' o e; have := PQ.out; omega))
  have TT := Lib.hid (TT'.out.trans (turn_weak hts (fun k hk => Or.inr (by have := PQ.out; omega))))
  generalize wa.setCell ⟨q, 25, none⟩ (.int .i64 v0) = wb0 at HQ HP R TT ⊢
  clear hx hf hts HP' TT' R' HQ'
  have D1 := Lib.hid (C1.out _ R.out)
  clear C1
  go_wp2_with fail
  with_reducible refine D1.out.mono ?_
  rintro e wa ⟨rfl, hM, hT⟩
  have hq1 := heap_turn HQ.out hT (by have := PQ.out; have := RP.out; omega)
  have HP' := Lib.hid (heap_turn HP.out hT (by have := RP.out; omega))
  have TT' := Lib.hid (TT.out.trans (turn_weak hT (fun k hk => Or.inl hk)))
  have hx := heap_cellI (i := 26) hq1 rfl
  have hf := heap_free (i := 26) hq1
  have R' := Lib.hid hM
  have HQ' := Lib.hid hq1
  clear hq1 hM hT R HQ HP TT D1
  go_upto_region 38 with fail
  have HQ := Lib.hid (show (wa.setCell ⟨q, 26, none⟩ (.int .i64 v1)).heap[q]? = some (.cells #[.int .i64 5, .int .i64 0, .int .i64 0, .int .i64 0, .int .i64 0, .int .i64 0, .int .i64 0, .int .i64 0, .int .i64 0, .int .i64 0, .int .i64 0, .string ⟨#[]⟩, .int .i64 0, .int .i64 0, .bool false, .int .i64 0, .string ⟨#[]⟩, .int .i64 0, .int .i64 0, .int .i64 0, .int .i64 0, .int .i64 0, .int .i64 0, .slice .none 0 0, .bool false, .int .i64 v0, .int .i64 v1] 46 (0, 0)) from heap_set HQ'.out)
  have hts : Turn (fun k => k = q) wa (wa.setCell ⟨q, 26, none⟩ (.int .i64 v1)) := Turn.setCell rfl
  have HP := Lib.hid (heap_turn HP'.out hts (by have := PQ.out; omega))
  have R := Lib.hid (R'.out.fresh hts (by have := PQ.out; have := RP.out; omega) (fun h0 q' o e => by have := AP.out h0 q' o e; have := PQ.out; omega))
  have TT := Lib.hid (TT'.out.trans (turn_weak hts (fun k hk => Or.inr (by have := PQ.out; omega))))
  generalize wa.setCell ⟨q, 26, none⟩ (.int .i64 v1) = wb1 at HQ HP R TT ⊢
  clear hx hf hts HP' TT' R' HQ'
  go_wp2_with (first | (refine wpList_load_row rfl 46 (.tmp 5) rfl q rfl 46 #[.int .i64 5, .int .i64 0, .int .i64 0, .int .i64 0, .int .i64 0, .int .i64 0, .int .i64 0, .int .i64 0, .int .i64 0, .int .i64 0, .int .i64 0, .string ⟨#[]⟩, .int .i64 0, .int .i64 0, .bool false, .int .i64 0, .string ⟨#[]⟩, .int .i64 0, .int .i64 0, .int .i64 0, .int .i64 0, .int .i64 0, .int .i64 0, .slice .none 0 0, .bool false, .int .i64 v0, .int .i64 v1] (0, 0) _ HQ.out Try.underlying46 rfl (by kernel_rfl) ?_) | (refine wpList_store_row rfl 46 (.tmp 4) (.tmp 118) rfl p #[.int .i64 5, .int .i64 0, .int .i64 0, .int .i64 0, .int .i64 0, .int .i64 0, .int .i64 0, .int .i64 0, .int .i64 0, .int .i64 0, .int .i64 0, .string ⟨#[]⟩, .int .i64 0, .int .i64 0, .bool false, .int .i64 0, .string ⟨#[]⟩, .int .i64 0, .int .i64 0, .int .i64 0, .int .i64 0, .int .i64 0, .int .i64 0, .slice .none 0 0, .bool false, .int .i64 v0, .int .i64 v1] rfl rfl 46 #[.int .i64 0, .int .i64 0, .int .i64 0, .int .i64 0, .int .i64 0, .int .i64 0, .int .i64 0, .int .i64 0, .int .i64 0, .int .i64 0, .int .i64 0, .string ⟨#[]⟩, .int .i64 0, .int .i64 0, .bool false, .int .i64 0, .string ⟨#[]⟩, .int .i64 0, .int .i64 0, .int .i64 0, .int .i64 0, .int .i64 0, .int .i64 0, .slice .none 0 0, .bool false, .int .i64 0, .int .i64 0] HP.out (by kernel_rfl) rfl (by simp [Value.oneCell']) ?_) | fail)
  (try simp only [Exit.inBlock, Exit.then])
  refine bodyPost_ret (results_cell_row rfl _ _ p 46 #[.int .i64 5, .int .i64 0, .int .i64 0, .int .i64 0, .int .i64 0, .int .i64 0, .int .i64 0, .int .i64 0, .int .i64 0, .int .i64 0, .int .i64 0, .string ⟨#[]⟩, .int .i64 0, .int .i64 0, .bool false, .int .i64 0, .string ⟨#[]⟩, .int .i64 0, .int .i64 0, .int .i64 0, .int .i64 0, .int .i64 0, .int .i64 0, .slice .none 0 0, .bool false, .int .i64 v0, .int .i64 v1] (0, 0) _ rfl (setRow_heap _ p _ _ _ _ HP.out) Try.underlying46 rfl (by kernel_rfl)) rfl ?_
  have PL := (Array.getElem?_eq_some_iff.1 HP.out).1
  have bb := below_setRow (Below.refl p wb1) (Nat.le_refl p) #[.int .i64 5, .int .i64 0, .int .i64 0, .int .i64 0, .int .i64 0, .int .i64 0, .int .i64 0, .int .i64 0, .int .i64 0, .int .i64 0, .int .i64 0, .string ⟨#[]⟩, .int .i64 0, .int .i64 0, .bool false, .int .i64 0, .string ⟨#[]⟩, .int .i64 0, .int .i64 0, .int .i64 0, .int .i64 0, .int .i64 0, .int .i64 0, .slice .none 0 0, .bool false, .int .i64 v0, .int .i64 v1]
  refine ⟨rfl, R.out.old bb (by omega) RP.out AP.out, ?_⟩
  rw [HPH.out]
  exact TT.out.trans (turn_weak (turn_above bb) (fun k hk => Or.inr hk))
set_option maxHeartbeats 6400000 in
theorem dRead_no {r : Nat} {a : Option Addr} {n cap : Nat} {bs : List Nat} {s : RS} (kv : Int) (hk : kv ≠ 1 ∧ kv ≠ 2 ∧ kv ≠ 3 ∧ kv ≠ 4 ∧ kv ≠ 5) (w : World) (h : RdS r a n cap bs s w) :
    Calls Try.prog 51 #[.pointer (some ⟨r, 0, none⟩), .int .i64 kv] w (DReadP r a n cap bs s w (.agg #[.int .i64 kv, .int .i64 0, .int .i64 0, .int .i64 0, .int .i64 0, .int .i64 0, .int .i64 0, .int .i64 0, .int .i64 0, .int .i64 0, .int .i64 0, .string ⟨#[]⟩, .int .i64 0, .int .i64 0, .bool false, .int .i64 0, .string ⟨#[]⟩, .int .i64 0, .int .i64 0, .int .i64 0, .int .i64 0, .int .i64 0, .int .i64 0, .slice .none 0 0, .bool false, .int .i64 0, .int .i64 0])) := by
  have LR := Lib.hid (lt_of_cell h.m.c0)
  have AL := Lib.hid (show 0 < n → ∀ q o, a = some ⟨q, o, none⟩ → q < w.heap.size from fun h0 => h.lt h0)
  obtain ⟨w1, hw1⟩ : ∃ w1, w.alloc (.cells #[.int .i64 0, .int .i64 0, .int .i64 0, .int .i64 0, .int .i64 0, .int .i64 0, .int .i64 0, .int .i64 0, .int .i64 0, .int .i64 0, .int .i64 0, .string ⟨#[]⟩, .int .i64 0, .int .i64 0, .bool false, .int .i64 0, .string ⟨#[]⟩, .int .i64 0, .int .i64 0, .int .i64 0, .int .i64 0, .int .i64 0, .int .i64 0, .slice .none 0 0, .bool false, .int .i64 0, .int .i64 0] 46) = w1 := ⟨_, rfl⟩
  have HP1 := Lib.hid (show w1.heap[w.heap.size]? = some (.cells #[.int .i64 0, .int .i64 0, .int .i64 0, .int .i64 0, .int .i64 0, .int .i64 0, .int .i64 0, .int .i64 0, .int .i64 0, .int .i64 0, .int .i64 0, .string ⟨#[]⟩, .int .i64 0, .int .i64 0, .bool false, .int .i64 0, .string ⟨#[]⟩, .int .i64 0, .int .i64 0, .int .i64 0, .int .i64 0, .int .i64 0, .int .i64 0, .slice .none 0 0, .bool false, .int .i64 0, .int .i64 0] 46 (0, 0)) from hw1 ▸ heap_alloc_new w _)
  have B1 := Lib.hid (show Below w.heap.size w w1 from hw1 ▸ below_one w _)
  have LW := Lib.hid (show w.heap.size < w1.heap.size from (Array.getElem?_eq_some_iff.1 HP1.out).1)
  have HQ1 := Lib.hid (heap_alloc_new w1 (.cells #[.int .i64 0, .int .i64 0, .int .i64 0, .int .i64 0, .int .i64 0, .int .i64 0, .int .i64 0, .int .i64 0, .int .i64 0, .int .i64 0, .int .i64 0, .string ⟨#[]⟩, .int .i64 0, .int .i64 0, .bool false, .int .i64 0, .string ⟨#[]⟩, .int .i64 0, .int .i64 0, .int .i64 0, .int .i64 0, .int .i64 0, .int .i64 0, .slice .none 0 0, .bool false, .int .i64 0, .int .i64 0] 46))
  obtain ⟨p, hp⟩ : ∃ p, w.heap.size = p := ⟨_, rfl⟩
  have HPH := Lib.hid hp
  rw [hp] at HP1
  have M0 := Lib.hid h
  clear h
  go_enter Try.func51, Try.ntmps51
  go_upto_region 1 with fail
  try rw [hw1]
  try simp only [hp]
  clear hw1 hp
  go_upto_region 2 with (first | (refine wpList_store_row rfl 46 (.tmp 5) (.tmp 9) rfl w1.heap.size #[.int .i64 kv, .int .i64 0, .int .i64 0, .int .i64 0, .int .i64 0, .int .i64 0, .int .i64 0, .int .i64 0, .int .i64 0, .int .i64 0, .int .i64 0, .string ⟨#[]⟩, .int .i64 0, .int .i64 0, .bool false, .int .i64 0, .string ⟨#[]⟩, .int .i64 0, .int .i64 0, .int .i64 0, .int .i64 0, .int .i64 0, .int .i64 0, .slice .none 0 0, .bool false, .int .i64 0, .int .i64 0] rfl rfl 46 #[.int .i64 0, .int .i64 0, .int .i64 0, .int .i64 0, .int .i64 0, .int .i64 0, .int .i64 0, .int .i64 0, .int .i64 0, .int .i64 0, .int .i64 0, .string ⟨#[]⟩, .int .i64 0, .int .i64 0, .bool false, .int .i64 0, .string ⟨#[]⟩, .int .i64 0, .int .i64 0, .int .i64 0, .int .i64 0, .int .i64 0, .int .i64 0, .slice .none 0 0, .bool false, .int .i64 0, .int .i64 0] HQ1.out (by kernel_rfl) rfl (by simp [Value.oneCell']) ?_) | fail)
  obtain ⟨w2, hw2⟩ : ∃ w2, (w1.alloc (.cells #[.int .i64 0, .int .i64 0, .int .i64 0, .int .i64 0, .int .i64 0, .int .i64 0, .int .i64 0, .int .i64 0, .int .i64 0, .int .i64 0, .int .i64 0, .string ⟨#[]⟩, .int .i64 0, .int .i64 0, .bool false, .int .i64 0, .string ⟨#[]⟩, .int .i64 0, .int .i64 0, .int .i64 0, .int .i64 0, .int .i64 0, .int .i64 0, .slice .none 0 0, .bool false, .int .i64 0, .int .i64 0] 46)).setRow w1.heap.size #[.int .i64 kv, .int .i64 0, .int .i64 0, .int .i64 0, .int .i64 0, .int .i64 0, .int .i64 0, .int .i64 0, .int .i64 0, .int .i64 0, .int .i64 0, .string ⟨#[]⟩, .int .i64 0, .int .i64 0, .bool false, .int .i64 0, .string ⟨#[]⟩, .int .i64 0, .int .i64 0, .int .i64 0, .int .i64 0, .int .i64 0, .int .i64 0, .slice .none 0 0, .bool false, .int .i64 0, .int .i64 0] = w2 := ⟨_, rfl⟩
  have HQ := Lib.hid (show w2.heap[w1.heap.size]? = some (.cells #[.int .i64 kv, .int .i64 0, .int .i64 0, .int .i64 0, .int .i64 0, .int .i64 0, .int .i64 0, .int .i64 0, .int .i64 0, .int .i64 0, .int .i64 0, .string ⟨#[]⟩, .int .i64 0, .int .i64 0, .bool false, .int .i64 0, .string ⟨#[]⟩, .int .i64 0, .int .i64 0, .int .i64 0, .int .i64 0, .int .i64 0, .int .i64 0, .slice .none 0 0, .bool false, .int .i64 0, .int .i64 0] 46 (0, 0)) from hw2 ▸ setRow_heap _ _ _ _ _ _ HQ1.out)
  have b12 : Below w1.heap.size w1 w2 := hw2 ▸ below_setRow (below_one w1 _) (Nat.le_refl _) #[.int .i64 kv, .int .i64 0, .int .i64 0, .int .i64 0, .int .i64 0, .int .i64 0, .int .i64 0, .int .i64 0, .int .i64 0, .int .i64 0, .int .i64 0, .string ⟨#[]⟩, .int .i64 0, .int .i64 0, .bool false, .int .i64 0, .string ⟨#[]⟩, .int .i64 0, .int .i64 0, .int .i64 0, .int .i64 0, .int .i64 0, .int .i64 0, .slice .none 0 0, .bool false, .int .i64 0, .int .i64 0]
  have HP := Lib.hid (heap_keep HP1.out b12)
  have BW := B1.out.trans (b12.mono B1.out.size)
  have R := Lib.hid (M0.out.below BW)
  have TT := Lib.hid (show Turn (fun k => k = r ∨ p ≤ k) w w2 from Turn.of_below BW)
  rw [hw2]
  obtain ⟨q, hq⟩ : ∃ q, w1.heap.size = q := ⟨_, rfl⟩
  have PQ := Lib.hid (show p < q from by have h1 := LW.out; have h2 := HPH.out; omega)
  have RP := Lib.hid (show r < p from by have h1 := LR.out; have h2 := HPH.out; omega)
  have AP := Lib.hid (show 0 < n → ∀ q' o, a = some ⟨q', o, none⟩ → q' < p from fun h0 q' o e => by have h1 := AL.out h0 q' o e; have h2 := HPH.out; omega)
  rw [hq] at HQ
  try simp only [hq]
  clear hw2 b12 BW HP1 HQ1 M0 hq LW LR AL B1
  obtain ⟨k1, k2, k3, k4, k5⟩ := hk
  go_upto_region 38 with fail
  go_wp2_with (first | (refine wpList_load_row rfl 46 (.tmp 5) rfl q rfl 46 #[.int .i64 kv, .int .i64 0, .int .i64 0, .int .i64 0, .int .i64 0, .int .i64 0, .int .i64 0, .int .i64 0, .int .i64 0, .int .i64 0, .int .i64 0, .string ⟨#[]⟩, .int .i64 0, .int .i64 0, .bool false, .int .i64 0, .string ⟨#[]⟩, .int .i64 0, .int .i64 0, .int .i64 0, .int .i64 0, .int .i64 0, .int .i64 0, .slice .none 0 0, .bool false, .int .i64 0, .int .i64 0] (0, 0) _ HQ.out Try.underlying46 rfl (by kernel_rfl) ?_) | (refine wpList_store_row rfl 46 (.tmp 4) (.tmp 118) rfl p #[.int .i64 kv, .int .i64 0, .int .i64 0, .int .i64 0, .int .i64 0, .int .i64 0, .int .i64 0, .int .i64 0, .int .i64 0, .int .i64 0, .int .i64 0, .string ⟨#[]⟩, .int .i64 0, .int .i64 0, .bool false, .int .i64 0, .string ⟨#[]⟩, .int .i64 0, .int .i64 0, .int .i64 0, .int .i64 0, .int .i64 0, .int .i64 0, .slice .none 0 0, .bool false, .int .i64 0, .int .i64 0] rfl rfl 46 #[.int .i64 0, .int .i64 0, .int .i64 0, .int .i64 0, .int .i64 0, .int .i64 0, .int .i64 0, .int .i64 0, .int .i64 0, .int .i64 0, .int .i64 0, .string ⟨#[]⟩, .int .i64 0, .int .i64 0, .bool false, .int .i64 0, .string ⟨#[]⟩, .int .i64 0, .int .i64 0, .int .i64 0, .int .i64 0, .int .i64 0, .int .i64 0, .slice .none 0 0, .bool false, .int .i64 0, .int .i64 0] HP.out (by kernel_rfl) rfl (by simp [Value.oneCell']) ?_) | fail)
  (try simp only [Exit.inBlock, Exit.then])
  refine bodyPost_ret (results_cell_row rfl _ _ p 46 #[.int .i64 kv, .int .i64 0, .int .i64 0, .int .i64 0, .int .i64 0, .int .i64 0, .int .i64 0, .int .i64 0, .int .i64 0, .int .i64 0, .int .i64 0, .string ⟨#[]⟩, .int .i64 0, .int .i64 0, .bool false, .int .i64 0, .string ⟨#[]⟩, .int .i64 0, .int .i64 0, .int .i64 0, .int .i64 0, .int .i64 0, .int .i64 0, .slice .none 0 0, .bool false, .int .i64 0, .int .i64 0] (0, 0) _ rfl (setRow_heap _ p _ _ _ _ HP.out) Try.underlying46 rfl (by kernel_rfl)) rfl ?_
  have PL := (Array.getElem?_eq_some_iff.1 HP.out).1
  have bb := below_setRow (Below.refl p w2) (Nat.le_refl p) #[.int .i64 kv, .int .i64 0, .int .i64 0, .int .i64 0, .int .i64 0, .int .i64 0, .int .i64 0, .int .i64 0, .int .i64 0, .int .i64 0, .int .i64 0, .string ⟨#[]⟩, .int .i64 0, .int .i64 0, .bool false, .int .i64 0, .string ⟨#[]⟩, .int .i64 0, .int .i64 0, .int .i64 0, .int .i64 0, .int .i64 0, .int .i64 0, .slice .none 0 0, .bool false, .int .i64 0, .int .i64 0]
  refine ⟨rfl, R.out.old bb (by omega) RP.out AP.out, ?_⟩
  rw [HPH.out]
  exact TT.out.trans (turn_weak (turn_above bb) (fun k hk => Or.inr hk))
end Go.Proofs.Ythboiklcjpnhbaa
/- messages in the document: read, an Ask (by gen/me5.py) -/
namespace Go.Proofs.Ythboiklcjpnhbaa
open Go.RowKit
set_option linter.unusedVariables false
set_option maxRecDepth 20000
set_option maxRecDepth 100000
def dAskS (bs : List Nat) (n : Nat) (s : RS) : RS :=
  let s1 := dNum n 4 s
  let s2 := dNum n 4 s1
  let s3 := dNum n 4 s2
  let s4 := dNum n 4 s3
  let s5 := dNum n 4 s4
  let s6 := dTe bs n s5
  let s7 := dNum n 1 s6
  let s8 := dNum n 1 s7
  let s9 := dNum n 1 s8
  let s10 := dNum n 1 s9
  let s11 := dTe bs n s10
  s11
def dAsk (bs : List Nat) (n : Nat) (s : RS) : AskP :=
  let s1 := dNum n 4 s
  let s2 := dNum n 4 s1
  let s3 := dNum n 4 s2
  let s4 := dNum n 4 s3
  let s5 := dNum n 4 s4
  let s6 := dTe bs n s5
  let s7 := dNum n 1 s6
  let s8 := dNum n 1 s7
  let s9 := dNum n 1 s8
  let s10 := dNum n 1 s9
  ⟨dG bs n 4 s, dG bs n 4 s1, dG bs n 4 s2, dG bs n 4 s3, dG bs n 4 s4, dTx bs n s5, dG bs n 1 s6, dG bs n 1 s7, (dG bs n 1 s8 == 1), dG bs n 1 s9, dTx bs n s10⟩
def putsA (cs : Array Value) : Nat → List Value → Array Value
  | _, [] => cs
  | o, v :: r => putsA (cs.setIfInBounds o v) (o + 1) r
theorem heap_setCells {p : Nat} {t : TypeId} {fr : Nat × Nat} : ∀ (vs : List Value) (o : Nat) (w : World) (cs : Array Value), w.heap[p]? = some (.cells cs t fr) → (w.setCells p o vs).heap[p]? = some (.cells (putsA cs o vs) t fr)
  | [], _, _, _, h => h
  | v :: r, o, w, cs, h => by
    rw [World.setCells]
    exact heap_setCells r (o + 1) _ _ (heap_set h)
theorem turn_setCells {p : Nat} : ∀ (vs : List Value) (o : Nat) (w : World), Turn (fun k => k = p) w (w.setCells p o vs)
  | [], o, w => Turn.of_below (Below.refl w.heap.size w)
  | v :: r, o, w => by
    rw [World.setCells]
    exact Turn.trans (F := fun k => k = p) (Turn.setCell rfl) (turn_setCells r (o + 1) _)
theorem there_heap {w : World} {p o n : Nat} {cs : Array Value} {t : TypeId} (h : w.heap[p]? = some (.cells cs t (0, 0))) (hn : o + n ≤ cs.size) : w.there p o n := fun j hj =>
  ⟨by rw [heap_cellI (i := o + j) h (Array.getElem?_eq_getElem (by omega))]; rfl, heap_free h⟩
set_option maxHeartbeats 12800000 in
theorem dRead_Ask {r : Nat} {a : Option Addr} {n cap : Nat} {bs : List Nat} {s : RS} (w : World) (h : RdS r a n cap bs s w) :
    Calls Try.prog 51 #[.pointer (some ⟨r, 0, none⟩), .int .i64 3] w (DReadP r a n cap bs (dAskS bs n s) w (msgC (.ask (dAsk bs n s)))) := by
  obtain ⟨v0, hv0⟩ : ∃ v : Int, dG bs n 4 s = v := ⟨_, rfl⟩
  obtain ⟨s1, hs1⟩ : ∃ t, dNum n 4 s = t := ⟨_, rfl⟩
  have C0 := Lib.hid (fun w' (h : RdS r a n cap bs s w') => dsNum 4 4 rfl (by omega) (by omega) w' h)
  rw [hv0, hs1] at C0
  obtain ⟨v1, hv1⟩ : ∃ v : Int, dG bs n 4 s1 = v := ⟨_, rfl⟩
  obtain ⟨s2, hs2⟩ : ∃ t, dNum n 4 s1 = t := ⟨_, rfl⟩
  have C1 := Lib.hid (fun w' (h : RdS r a n cap bs s1 w') => dsNum 4 4 rfl (by omega) (by omega) w' h)
  rw [hv1, hs2] at C1
  obtain ⟨v2, hv2⟩ : ∃ v : Int, dG bs n 4 s2 = v := ⟨_, rfl⟩
  obtain ⟨s3, hs3⟩ : ∃ t, dNum n 4 s2 = t := ⟨_, rfl⟩
  have C2 := Lib.hid (fun w' (h : RdS r a n cap bs s2 w') => dsNum 4 4 rfl (by omega) (by omega) w' h)
  rw [hv2, hs3] at C2
  obtain ⟨v3, hv3⟩ : ∃ v : Int, dG bs n 4 s3 = v := ⟨_, rfl⟩
  obtain ⟨s4, hs4⟩ : ∃ t, dNum n 4 s3 = t := ⟨_, rfl⟩
  have C3 := Lib.hid (fun w' (h : RdS r a n cap bs s3 w') => dsNum 4 4 rfl (by omega) (by omega) w' h)
  rw [hv3, hs4] at C3
  obtain ⟨v4, hv4⟩ : ∃ v : Int, dG bs n 4 s4 = v := ⟨_, rfl⟩
  obtain ⟨s5, hs5⟩ : ∃ t, dNum n 4 s4 = t := ⟨_, rfl⟩
  have C4 := Lib.hid (fun w' (h : RdS r a n cap bs s4 w') => dsNum 4 4 rfl (by omega) (by omega) w' h)
  rw [hv4, hs5] at C4
  obtain ⟨v5, hv5⟩ : ∃ v : Tx, dTx bs n s5 = v := ⟨_, rfl⟩
  obtain ⟨s6, hs6⟩ : ∃ t, dTe bs n s5 = t := ⟨_, rfl⟩
  have C5 := Lib.hid (fun w' (h : RdS r a n cap bs s5 w') => dsText w' h)
  rw [hv5, hs6] at C5
  obtain ⟨v6, hv6⟩ : ∃ v : Int, dG bs n 1 s6 = v := ⟨_, rfl⟩
  obtain ⟨s7, hs7⟩ : ∃ t, dNum n 1 s6 = t := ⟨_, rfl⟩
  have C6 := Lib.hid (fun w' (h : RdS r a n cap bs s6 w') => dsNum 1 1 rfl (by omega) (by omega) w' h)
  rw [hv6, hs7] at C6
  obtain ⟨v7, hv7⟩ : ∃ v : Int, dG bs n 1 s7 = v := ⟨_, rfl⟩
  obtain ⟨s8, hs8⟩ : ∃ t, dNum n 1 s7 = t := ⟨_, rfl⟩
  have C7 := Lib.hid (fun w' (h : RdS r a n cap bs s7 w') => dsNum 1 1 rfl (by omega) (by omega) w' h)
  rw [hv7, hs8] at C7
  obtain ⟨v8, hv8⟩ : ∃ v : Int, dG bs n 1 s8 = v := ⟨_, rfl⟩
  obtain ⟨s9, hs9⟩ : ∃ t, dNum n 1 s8 = t := ⟨_, rfl⟩
  have C8 := Lib.hid (fun w' (h : RdS r a n cap bs s8 w') => dsNum 1 1 rfl (by omega) (by omega) w' h)
  rw [hv8, hs9] at C8
  obtain ⟨v9, hv9⟩ : ∃ v : Int, dG bs n 1 s9 = v := ⟨_, rfl⟩
  obtain ⟨s10, hs10⟩ : ∃ t, dNum n 1 s9 = t := ⟨_, rfl⟩
  have C9 := Lib.hid (fun w' (h : RdS r a n cap bs s9 w') => dsNum 1 1 rfl (by omega) (by omega) w' h)
  rw [hv9, hs10] at C9
  obtain ⟨v10, hv10⟩ : ∃ v : Tx, dTx bs n s10 = v := ⟨_, rfl⟩
  obtain ⟨s11, hs11⟩ : ∃ t, dTe bs n s10 = t := ⟨_, rfl⟩
  have C10 := Lib.hid (fun w' (h : RdS r a n cap bs s10 w') => dsText w' h)
  rw [hv10, hs11] at C10
  have ES : dAskS bs n s = s11 := by simp only [dAskS, hs1, hs2, hs3, hs4, hs5, hs6, hs7, hs8, hs9, hs10, hs11]
  have EV : msgC (.ask (dAsk bs n s)) = .agg #[.int .i64 3, .int .i64 0, .int .i64 0, .int .i64 0, .int .i64 0, .int .i64 0, .int .i64 v0, .int .i64 v1, .int .i64 v2, .int .i64 v3, .int .i64 v4, .string v5, .int .i64 v6, .int .i64 v7, .bool (v8 == 1), .int .i64 v9, .string v10, .int .i64 0, .int .i64 0, .int .i64 0, .int .i64 0, .int .i64 0, .int .i64 0, .slice .none 0 0, .bool false, .int .i64 0, .int .i64 0] := by simp only [dAsk, msgC, hs1, hs2, hs3, hs4, hs5, hs6, hs7, hs8, hs9, hs10, hv0, hv1, hv2, hv3, hv4, hv5, hv6, hv7, hv8, hv9, hv10]
  rw [ES, EV]
  have LR := Lib.hid (lt_of_cell h.m.c0)
  have AL := Lib.hid (show 0 < n → ∀ q o, a = some ⟨q, o, none⟩ → q < w.heap.size from fun h0 => h.lt h0)
  obtain ⟨w1, hw1⟩ : ∃ w1, w.alloc (.cells #[.int .i64 0, .int .i64 0, .int .i64 0, .int .i64 0, .int .i64 0, .int .i64 0, .int .i64 0, .int .i64 0, .int .i64 0, .int .i64 0, .int .i64 0, .string ⟨#[]⟩, .int .i64 0, .int .i64 0, .bool false, .int .i64 0, .string ⟨#[]⟩, .int .i64 0, .int .i64 0, .int .i64 0, .int .i64 0, .int .i64 0, .int .i64 0, .slice .none 0 0, .bool false, .int .i64 0, .int .i64 0] 46) = w1 := ⟨_, rfl⟩
  have HP1 := Lib.hid (show w1.heap[w.heap.size]? = some (.cells #[.int .i64 0, .int .i64 0, .int .i64 0, .int .i64 0, .int .i64 0, .int .i64 0, .int .i64 0, .int .i64 0, .int .i64 0, .int .i64 0, .int .i64 0, .string ⟨#[]⟩, .int .i64 0, .int .i64 0, .bool false, .int .i64 0, .string ⟨#[]⟩, .int .i64 0, .int .i64 0, .int .i64 0, .int .i64 0, .int .i64 0, .int .i64 0, .slice .none 0 0, .bool false, .int .i64 0, .int .i64 0] 46 (0, 0)) from hw1 ▸ heap_alloc_new w _)
  have B1 := Lib.hid (show Below w.heap.size w w1 from hw1 ▸ below_one w _)
  have LW := Lib.hid (show w.heap.size < w1.heap.size from (Array.getElem?_eq_some_iff.1 HP1.out).1)
  have HQ1 := Lib.hid (heap_alloc_new w1 (.cells #[.int .i64 0, .int .i64 0, .int .i64 0, .int .i64 0, .int .i64 0, .int .i64 0, .int .i64 0, .int .i64 0, .int .i64 0, .int .i64 0, .int .i64 0, .string ⟨#[]⟩, .int .i64 0, .int .i64 0, .bool false, .int .i64 0, .string ⟨#[]⟩, .int .i64 0, .int .i64 0, .int .i64 0, .int .i64 0, .int .i64 0, .int .i64 0, .slice .none 0 0, .bool false, .int .i64 0, .int .i64 0] 46))
  obtain ⟨p, hp⟩ : ∃ p, w.heap.size = p := ⟨_, rfl⟩
  have HPH := Lib.hid hp
  rw [hp] at HP1
  have M0 := Lib.hid h
  clear h ES EV hv0 hs1 hv1 hs2 hv2 hs3 hv3 hs4 hv4 hs5 hv5 hs6 hv6 hs7 hv7 hs8 hv8 hs9 hv9 hs10 hv10 hs11
  go_enter Try.func51, Try.ntmps51
  go_upto_region 1 with fail
  try rw [hw1]
  try simp only [hp]
  clear hw1 hp
  go_upto_region 2 with (first | (refine wpList_store_row rfl 46 (.tmp 5) (.tmp 9) rfl w1.heap.size #[.int .i64 3, .int .i64 0, .int .i64 0, .int .i64 0, .int .i64 0, .int .i64 0, .int .i64 0, .int .i64 0, .int .i64 0, .int .i64 0, .int .i64 0, .string ⟨#[]⟩, .int .i64 0, .int .i64 0, .bool false, .int .i64 0, .string ⟨#[]⟩, .int .i64 0, .int .i64 0, .int .i64 0, .int .i64 0, .int .i64 0, .int .i64 0, .slice .none 0 0, .bool false, .int .i64 0, .int .i64 0] rfl rfl 46 #[.int .i64 0, .int .i64 0, .int .i64 0, .int .i64 0, .int .i64 0, .int .i64 0, .int .i64 0, .int .i64 0, .int .i64 0, .int .i64 0, .int .i64 0, .string ⟨#[]⟩, .int .i64 0, .int .i64 0, .bool false, .int .i64 0, .string ⟨#[]⟩, .int .i64 0, .int .i64 0, .int .i64 0, .int .i64 0, .int .i64 0, .int .i64 0, .slice .none 0 0, .bool false, .int .i64 0, .int .i64 0] HQ1.out (by kernel_rfl) rfl (by simp [Value.oneCell']) ?_) | fail)
  obtain ⟨w2, hw2⟩ : ∃ w2, (w1.alloc (.cells #[.int .i64 0, .int .i64 0, .int .i64 0, .int .i64 0, .int .i64 0, .int .i64 0, .int .i64 0, .int .i64 0, .int .i64 0, .int .i64 0, .int .i64 0, .string ⟨#[]⟩, .int .i64 0, .int .i64 0, .bool false, .int .i64 0, .string ⟨#[]⟩, .int .i64 0, .int .i64 0, .int .i64 0, .int .i64 0, .int .i64 0, .int .i64 0, .slice .none 0 0, .bool false, .int .i64 0, .int .i64 0] 46)).setRow w1.heap.size #[.int .i64 3, .int .i64 0, .int .i64 0, .int .i64 0, .int .i64 0, .int .i64 0, .int .i64 0, .int .i64 0, .int .i64 0, .int .i64 0, .int .i64 0, .string ⟨#[]⟩, .int .i64 0, .int .i64 0, .bool false, .int .i64 0, .string ⟨#[]⟩, .int .i64 0, .int .i64 0, .int .i64 0, .int .i64 0, .int .i64 0, .int .i64 0, .slice .none 0 0, .bool false, .int .i64 0, .int .i64 0] = w2 := ⟨_, rfl⟩
  have HQ0 := Lib.hid (show w2.heap[w1.heap.size]? = some (.cells #[.int .i64 3, .int .i64 0, .int .i64 0, .int .i64 0, .int .i64 0, .int .i64 0, .int .i64 0, .int .i64 0, .int .i64 0, .int .i64 0, .int .i64 0, .string ⟨#[]⟩, .int .i64 0, .int .i64 0, .bool false, .int .i64 0, .string ⟨#[]⟩, .int .i64 0, .int .i64 0, .int .i64 0, .int .i64 0, .int .i64 0, .int .i64 0, .slice .none 0 0, .bool false, .int .i64 0, .int .i64 0] 46 (0, 0)) from hw2 ▸ setRow_heap _ _ _ _ _ _ HQ1.out)
  have b12 : Below w1.heap.size w1 w2 := hw2 ▸ below_setRow (below_one w1 _) (Nat.le_refl _) #[.int .i64 3, .int .i64 0, .int .i64 0, .int .i64 0, .int .i64 0, .int .i64 0, .int .i64 0, .int .i64 0, .int .i64 0, .int .i64 0, .int .i64 0, .string ⟨#[]⟩, .int .i64 0, .int .i64 0, .bool false, .int .i64 0, .string ⟨#[]⟩, .int .i64 0, .int .i64 0, .int .i64 0, .int .i64 0, .int .i64 0, .int .i64 0, .slice .none 0 0, .bool false, .int .i64 0, .int .i64 0]
  have HP0 := Lib.hid (heap_keep HP1.out b12)
  have BW := B1.out.trans (b12.mono B1.out.size)
  have R0 := Lib.hid (M0.out.below BW)
  have TT0 := Lib.hid (show Turn (fun k => k = r ∨ p ≤ k) w w2 from Turn.of_below BW)
  rw [hw2]
  obtain ⟨q, hq⟩ : ∃ q, w1.heap.size = q := ⟨_, rfl⟩
  have PQ := Lib.hid (show p < q from by have h1 := LW.out; have h2 := HPH.out; omega)
  have RP := Lib.hid (show r < p from by have h1 := LR.out; have h2 := HPH.out; omega)
  have AP := Lib.hid (show 0 < n → ∀ q' o, a = some ⟨q', o, none⟩ → q' < p from fun h0 q' o e => by have h1 := AL.out h0 q' o e; have h2 := HPH.out; omega)
  rw [hq] at HQ0
  try simp only [hq]
  clear hw2 b12 BW HP1 HQ1 M0 hq LW LR AL B1
  go_upto_region 12 with fail
  have HU := Lib.hid (heap_alloc_new w2 (.cells #[.int .i64 0, .int .i64 0, .int .i64 0, .int .i64 0, .int .i64 0, .string ⟨#[]⟩, .int .i64 0, .int .i64 0, .bool false, .int .i64 0, .string ⟨#[]⟩] 29))
  have HQ := Lib.hid (heapD (o2 := .cells #[.int .i64 0, .int .i64 0, .int .i64 0, .int .i64 0, .int .i64 0, .string ⟨#[]⟩, .int .i64 0, .int .i64 0, .bool false, .int .i64 0, .string ⟨#[]⟩] 29) HQ0.out)
  have HP := Lib.hid (heapD (o2 := .cells #[.int .i64 0, .int .i64 0, .int .i64 0, .int .i64 0, .int .i64 0, .string ⟨#[]⟩, .int .i64 0, .int .i64 0, .bool false, .int .i64 0, .string ⟨#[]⟩] 29) HP0.out)
  have R := Lib.hid (R0.out.below (below_one w2 (.cells #[.int .i64 0, .int .i64 0, .int .i64 0, .int .i64 0, .int .i64 0, .string ⟨#[]⟩, .int .i64 0, .int .i64 0, .bool false, .int .i64 0, .string ⟨#[]⟩] 29)))
  have TT := Lib.hid (TT0.out.trans (Turn.of_below (F := fun k => k = r ∨ p ≤ k) (below_one w2 (.cells #[.int .i64 0, .int .i64 0, .int .i64 0, .int .i64 0, .int .i64 0, .string ⟨#[]⟩, .int .i64 0, .int .i64 0, .bool false, .int .i64 0, .string ⟨#[]⟩] 29))))
  have QU0 := (Array.getElem?_eq_some_iff.1 HQ0.out).1
  generalize w2.alloc (.cells #[.int .i64 0, .int .i64 0, .int .i64 0, .int .i64 0, .int .i64 0, .string ⟨#[]⟩, .int .i64 0, .int .i64 0, .bool false, .int .i64 0, .string ⟨#[]⟩] 29) = w3 at HU HQ HP R TT ⊢
  obtain ⟨u, hu⟩ : ∃ u, w2.heap.size = u := ⟨_, rfl⟩
  rw [hu] at HU QU0
  try simp only [hu]
  have QU := Lib.hid QU0
  clear hu QU0 HQ0 HP0 R0 TT0
  have D0 := Lib.hid (C0.out _ R.out)
  clear C0
  go_wp2_with fail
  with_reducible refine D0.out.mono ?_
  rintro e wa ⟨rfl, hM, hT⟩
  have hu1 := heap_turn HU.out hT (by have := QU.out; have := PQ.out; have := RP.out; omega)
  have HQ' := Lib.hid (heap_turn HQ.out hT (by have := PQ.out; have := RP.out; omega))
  have HP' := Lib.hid (heap_turn HP.out hT (by have := RP.out; omega))
  have TT' := Lib.hid (TT.out.trans (turn_weak hT (fun k hk => Or.inl hk)))
  have hx := heap_cellI (i := 0) hu1 rfl
  have hf := heap_free (i := 0) hu1
  have R' := Lib.hid hM
  have HU' := Lib.hid hu1
  clear hu1 hM hT R HQ HP TT HU D0
  go_upto_region 13 with fail
  have HU := Lib.hid (show (wa.setCell ⟨u, 0, none⟩ (.int .i64 v0)).heap[u]? = some (.cells #[.int .i64 v0, .int .i64 0, .int .i64 0, .int .i64 0, .int .i64 0, .string ⟨#[]⟩, .int .i64 0, .int .i64 0, .bool false, .int .i64 0, .string ⟨#[]⟩] 29 (0, 0)) from heap_set HU'.out)
  have hts : Turn (fun k => k = u) wa (wa.setCell ⟨u, 0, none⟩ (.int .i64 v0)) := Turn.setCell rfl
  have HQ := Lib.hid (heap_turn HQ'.out hts (by have := QU.out; omega))
  have HP := Lib.hid (heap_turn HP'.out hts (by have := PQ.out; have := QU.out; omega))
  have R := Lib.hid (R'.out.fresh hts (by have := PQ.out; have := QU.out; have := RP.out; omega) (fun h0 q' o e => by have := AP.out h0 q' o e; have := PQ.out; have := QU.out; omega))
  have TT := Lib.hid (TT'.out.trans (turn_weak hts (fun k hk => Or.inr (by have := PQ.out; have := QU.out; omega))))
  generalize wa.setCell ⟨u, 0, none⟩ (.int .i64 v0) = wb0 at HU HQ HP R TT ⊢
  clear hx hf hts HP' TT' R' HQ' HU'
  have D1 := Lib.hid (C1.out _ R.out)
  clear C1
  go_wp2_with fail
  with_reducible refine D1.out.mono ?_
  rintro e wa ⟨rfl, hM, hT⟩
  have hu1 := heap_turn HU.out hT (by have := QU.out; have := PQ.out; have := RP.out; omega)
  have HQ' := Lib.hid (heap_turn HQ.out hT (by have := PQ.out; have := RP.out; omega))
  have HP' := Lib.hid (heap_turn HP.out hT (by have := RP.out; omega))
  have TT' := Lib.hid (TT.out.trans (turn_weak hT (fun k hk => Or.inl hk)))
  have hx := heap_cellI (i := 1) hu1 rfl
  have hf := heap_free (i := 1) hu1
  have R' := Lib.hid hM
  have HU' := Lib.hid hu1
  clear hu1 hM hT R HQ HP TT HU D1
  go_upto_region 14 with fail
  have HU := Lib.hid (show (wa.setCell ⟨u, 1, none⟩ (.int .i64 v1)).heap[u]? = some (.cells #[.int .i64 v0, .int .i64 v1, .int .i64 0, .int .i64 0, .int .i64 0, .string ⟨#[]⟩, .int .i64 0, .int .i64 0, .bool false, .int .i64 0, .string ⟨#[]⟩] 29 (0, 0)) from heap_set HU'.out)
  have hts : Turn (fun k => k = u) wa (wa.setCell ⟨u, 1, none⟩ (.int .i64 v1)) := Turn.setCell rfl
  have HQ := Lib.hid (heap_turn HQ'.out hts (by have := QU.out; omega))
  have HP := Lib.hid (heap_turn HP'.out hts (by have := PQ.out; have := QU.out; omega))
  have R := Lib.hid (R'.out.fresh hts (by have := PQ.out; have := QU.out; have := RP.out; omega) (fun h0 q' o e => by have := AP.out h0 q' o e; have := PQ.out; have := QU.out; omega))
  have TT := Lib.hid (TT'.out.trans (turn_weak hts (fun k hk => Or.inr (by have := PQ.out; have := QU.out; omega))))
  generalize wa.setCell ⟨u, 1, none⟩ (.int .i64 v1) = wb1 at HU HQ HP R TT ⊢
  clear hx hf hts HP' TT' R' HQ' HU'
  have D2 := Lib.hid (C2.out _ R.out)
  clear C2
  go_wp2_with fail
  with_reducible refine D2.out.mono ?_
  rintro e wa ⟨rfl, hM, hT⟩
  have hu1 := heap_turn HU.out hT (by have := QU.out; have := PQ.out; have := RP.out; omega)
  have HQ' := Lib.hid (heap_turn HQ.out hT (by have := PQ.out; have := RP.out; omega))
  have HP' := Lib.hid (heap_turn HP.out hT (by have := RP.out; omega))
  have TT' := Lib.hid (TT.out.trans (turn_weak hT (fun k hk => Or.inl hk)))
  have hx := heap_cellI (i := 2) hu1 rfl
  have hf := heap_free (i := 2) hu1
  have R' := Lib.hid hM
  have HU' := Lib.hid hu1
  clear hu1 hM hT R HQ HP TT HU D2
  go_upto_region 15 with fail
  have HU := Lib.hid (show (wa.setCell ⟨u, 2, none⟩ (.int .i64 v2)).heap[u]? = some (.cells #[.int .i64 v0, .int .i64 v1, .int .i64 v2, .int .i64 0, .int .i64 0, .string ⟨#[]⟩, .int .i64 0, .int .i64 0, .bool false, .int .i64 0, .string ⟨#[]⟩] 29 (0, 0)) from heap_set HU'.out)
  have hts : Turn (fun k => k = u) wa (wa.setCell ⟨u, 2, none⟩ (.int .i64 v2)) := Turn.setCell rfl
  have HQ := Lib.hid (heap_turn HQ'.out hts (by have := QU.out; omega))
  have HP := Lib.hid (heap_turn HP'.out hts (by have := PQ.out; have := QU.out; omega))
  have R := Lib.hid (R'.out.fresh hts (by have := PQ.out; have := QU.out; have := RP.out; omega) (fun h0 q' o e => by have := AP.out h0 q' o e; have := PQ.out; have := QU.out; omega))
  have TT := Lib.hid (TT'.out.trans (turn_weak hts (fun k hk => Or.inr (by have := PQ.out; have := QU.out; omega))))
  generalize wa.setCell ⟨u, 2, none⟩ (.int .i64 v2) = wb2 at HU HQ HP R TT ⊢
  clear hx hf hts HP' TT' R' HQ' HU'
  have D3 := Lib.hid (C3.out _ R.out)
  clear C3
  go_wp2_with fail
  with_reducible refine D3.out.mono ?_
  rintro e wa ⟨rfl, hM, hT⟩
  have hu1 := heap_turn HU.out hT (by have := QU.out; have := PQ.out; have := RP.out; omega)
  have HQ' := Lib.hid (heap_turn HQ.out hT (by have := PQ.out; have := RP.out; omega))
  have HP' := Lib.hid (heap_turn HP.out hT (by have := RP.out; omega))
  have TT' := Lib.hid (TT.out.trans (turn_weak hT (fun k hk => Or.inl hk)))
  have hx := heap_cellI (i := 3) hu1 rfl
  have hf := heap_free (i := 3) hu1
  have R' := Lib.hid hM
  have HU' := Lib.hid hu1
  clear hu1 hM hT R HQ HP TT HU D3
  go_upto_region 16 with fail
  have HU := Lib.hid (show (wa.setCell ⟨u, 3, none⟩ (.int .i64 v3)).heap[u]? = some (.cells #[.int .i64 v0, .int .i64 v1, .int .i64 v2, .int .i64 v3, .int .i64 0, .string ⟨#[]⟩, .int .i64 0, .int .i64 0, .bool false, .int .i64 0, .string ⟨#[]⟩] 29 (0, 0)) from heap_set HU'.out)
  have hts : Turn (fun k => k = u) wa (wa.setCell ⟨u, 3, none⟩ (.int .i64 v3)) := Turn.setCell rfl
  have HQ := Lib.hid (heap_turn HQ'.out hts (by have := QU.out; omega))
  have HP := Lib.hid (heap_turn HP'.out hts (by have := PQ.out; have := QU.out; omega))
  have R := Lib.hid (R'.out.fresh hts (by have := PQ.out; have := QU.out; have := RP.out; omega) (fun h0 q' o e => by have := AP.out h0 q' o e; have := PQ.out; have := QU.out; omega))
  have TT := Lib.hid (TT'.out.trans (turn_weak hts (fun k hk => Or.inr (by have := PQ.out; have := QU.out; omega))))
  generalize wa.setCell ⟨u, 3, none⟩ (.int .i64 v3) = wb3 at HU HQ HP R TT ⊢
  clear hx hf hts HP' TT' R' HQ' HU'
  have D4 := Lib.hid (C4.out _ R.out)
  clear C4
  go_wp2_with fail
  with_reducible refine D4.out.mono ?_
  rintro e wa ⟨rfl, hM, hT⟩
  have hu1 := heap_turn HU.out hT (by have := QU.out; have := PQ.out; have := RP.out; omega)
  have HQ' := Lib.hid (heap_turn HQ.out hT (by have := PQ.out; have := RP.out; omega))
  have HP' := Lib.hid (heap_turn HP.out hT (by have := RP.out; omega))
  have TT' := Lib.hid (TT.out.trans (turn_weak hT (fun k hk => Or.inl hk)))
  have hx := heap_cellI (i := 4) hu1 rfl
  have hf := heap_free (i := 4) hu1
  have R' := Lib.hid hM
  have HU' := Lib.hid hu1
  clear hu1 hM hT R HQ HP TT HU D4
  go_upto_region 17 with fail
  have HU := Lib.hid (show (wa.setCell ⟨u, 4, none⟩ (.int .i64 v4)).heap[u]? = some (.cells #[.int .i64 v0, .int .i64 v1, .int .i64 v2, .int .i64 v3, .int .i64 v4, .string ⟨#[]⟩, .int .i64 0, .int .i64 0, .bool false, .int .i64 0, .string ⟨#[]⟩] 29 (0, 0)) from heap_set HU'.out)
  have hts : Turn (fun k => k = u) wa (wa.setCell ⟨u, 4, none⟩ (.int .i64 v4)) := Turn.setCell rfl
  have HQ := Lib.hid (heap_turn HQ'.out hts (by have := QU.out; omega))
  have HP := Lib.hid (heap_turn HP'.out hts (by have := PQ.out; have := QU.out; omega))
  have R := Lib.hid (R'.out.fresh hts (by have := PQ.out; have := QU.out; have := RP.out; omega) (fun h0 q' o e => by have := AP.out h0 q' o e; have := PQ.out; have := QU.out; omega))
  have TT := Lib.hid (TT'.out.trans (turn_weak hts (fun k hk => Or.inr (by have := PQ.out; have := QU.out; omega))))
  generalize wa.setCell ⟨u, 4, none⟩ (.int .i64 v4) = wb4 at HU HQ HP R TT ⊢
  clear hx hf hts HP' TT' R' HQ' HU'
  have D5 := Lib.hid (C5.out _ R.out)
  clear C5
  go_wp2_with fail
  with_reducible refine D5.out.mono ?_
  rintro e wa ⟨rfl, hM, hT⟩
  have hu1 := heap_turn HU.out hT (by have := QU.out; have := PQ.out; have := RP.out; omega)
  have HQ' := Lib.hid (heap_turn HQ.out hT (by have := PQ.out; have := RP.out; omega))
  have HP' := Lib.hid (heap_turn HP.out hT (by have := RP.out; omega))
  have TT' := Lib.hid (TT.out.trans (turn_weak hT (fun k hk => Or.inl hk)))
  have hx := heap_cellI (i := 5) hu1 rfl
  have hf := heap_free (i := 5) hu1
  have R' := Lib.hid hM
  have HU' := Lib.hid hu1
  clear hu1 hM hT R HQ HP TT HU D5
  go_upto_region 18 with fail
  have HU := Lib.hid (show (wa.setCell ⟨u, 5, none⟩ (.string v5)).heap[u]? = some (.cells #[.int .i64 v0, .int .i64 v1, .int .i64 v2, .int .i64 v3, .int .i64 v4, .string v5, .int .i64 0, .int .i64 0, .bool false, .int .i64 0, .string ⟨#[]⟩] 29 (0, 0)) from heap_set HU'.out)
  have hts : Turn (fun k => k = u) wa (wa.setCell ⟨u, 5, none⟩ (.string v5)) := Turn.setCell rfl
  have HQ := Lib.hid (heap_turn HQ'.out hts (by have := QU.out; omega))
  have HP := Lib.hid (heap_turn HP'.out hts (by have := PQ.out; have := QU.out; omega))
  have R := Lib.hid (R'.out.fresh hts (by have := PQ.out; have := QU.out; have := RP.out; omega) (fun h0 q' o e => by have := AP.out h0 q' o e; have := PQ.out; have := QU.out; omega))
  have TT := Lib.hid (TT'.out.trans (turn_weak hts (fun k hk => Or.inr (by have := PQ.out; have := QU.out; omega))))
  generalize wa.setCell ⟨u, 5, none⟩ (.string v5) = wb5 at HU HQ HP R TT ⊢
  clear hx hf hts HP' TT' R' HQ' HU'
  have D6 := Lib.hid (C6.out _ R.out)
  clear C6
  go_wp2_with fail
  with_reducible refine D6.out.mono ?_
  rintro e wa ⟨rfl, hM, hT⟩
  have hu1 := heap_turn HU.out hT (by have := QU.out; have := PQ.out; have := RP.out; omega)
  have HQ' := Lib.hid (heap_turn HQ.out hT (by have := PQ.out; have := RP.out; omega))
  have HP' := Lib.hid (heap_turn HP.out hT (by have := RP.out; omega))
  have TT' := Lib.hid (TT.out.trans (turn_weak hT (fun k hk => Or.inl hk)))
  have hx := heap_cellI (i := 6) hu1 rfl
  have hf := heap_free (i := 6) hu1
  have R' := Lib.hid hM
  have HU' := Lib.hid hu1
  clear hu1 hM hT R HQ HP TT HU D6
  go_upto_region 19 with fail
  have HU := Lib.hid (show (wa.setCell ⟨u, 6, none⟩ (.int .i64 v6)).heap[u]? = some (.cells #[.int .i64 v0, .int .i64 v1, .int .i64 v2, .int .i64 v3, .int .i64 v4, .string v5, .int .i64 v6, .int .i64 0, .bool false, .int .i64 0, .string ⟨#[]⟩] 29 (0, 0)) from heap_set HU'.out)
  have hts : Turn (fun k => k = u) wa (wa.setCell ⟨u, 6, none⟩ (.int .i64 v6)) := Turn.setCell rfl
  have HQ := Lib.hid (heap_turn HQ'.out hts (by have := QU.out; omega))
  have HP := Lib.hid (heap_turn HP'.out hts (by have := PQ.out; have := QU.out; omega))
  have R := Lib.hid (R'.out.fresh hts (by have := PQ.out; have := QU.out; have := RP.out; omega) (fun h0 q' o e => by have := AP.out h0 q' o e; have := PQ.out; have := QU.out; omega))
  have TT := Lib.hid (TT'.out.trans (turn_weak hts (fun k hk => Or.inr (by have := PQ.out; have := QU.out; omega))))
  generalize wa.setCell ⟨u, 6, none⟩ (.int .i64 v6) = wb6 at HU HQ HP R TT ⊢
  clear hx hf hts HP' TT' R' HQ' HU'
  have D7 := Lib.hid (C7.out _ R.out)
  clear C7
  go_wp2_with fail
  with_reducible refine D7.out.mono ?_
  rintro e wa ⟨rfl, hM, hT⟩
  have hu1 := heap_turn HU.out hT (by have := QU.out; have := PQ.out; have := RP.out; omega)
  have HQ' := Lib.hid (heap_turn HQ.out hT (by have := PQ.out; have := RP.out; omega))
  have HP' := Lib.hid (heap_turn HP.out hT (by have := RP.out; omega))
  have TT' := Lib.hid (TT.out.trans (turn_weak hT (fun k hk => Or.inl hk)))
  have hx := heap_cellI (i := 7) hu1 rfl
  have hf := heap_free (i := 7) hu1
  have R' := Lib.hid hM
  have HU' := Lib.hid hu1
  clear hu1 hM hT R HQ HP TT HU D7
  go_upto_region 20 with fail
  have HU := Lib.hid (show (wa.setCell ⟨u, 7, none⟩ (.int .i64 v7)).heap[u]? = some (.cells #[.int .i64 v0, .int .i64 v1, .int .i64 v2, .int .i64 v3, .int .i64 v4, .string v5, .int .i64 v6, .int .i64 v7, .bool false, .int .i64 0, .string ⟨#[]⟩] 29 (0, 0)) from heap_set HU'.out)
  have hts : Turn (fun k => k = u) wa (wa.setCell ⟨u, 7, none⟩ (.int .i64 v7)) := Turn.setCell rfl
  have HQ := Lib.hid (heap_turn HQ'.out hts (by have := QU.out; omega))
  have HP := Lib.hid (heap_turn HP'.out hts (by have := PQ.out; have := QU.out; omega))
  have R := Lib.hid (R'.out.fresh hts (by have := PQ.out; have := QU.out; have := RP.out; omega) (fun h0 q' o e => by have := AP.out h0 q' o e; have := PQ.out; have := QU.out; omega))
  have TT := Lib.hid (TT'.out.trans (turn_weak hts (fun k hk => Or.inr (by have := PQ.out; have := QU.out; omega))))
  generalize wa.setCell ⟨u, 7, none⟩ (.int .i64 v7) = wb7 at HU HQ HP R TT ⊢
  clear hx hf hts HP' TT' R' HQ' HU'
  have D8 := Lib.hid (C8.out _ R.out)
  clear C8
  go_wp2_with fail
  with_reducible refine D8.out.mono ?_
  rintro e wa ⟨rfl, hM, hT⟩
  have hu1 := heap_turn HU.out hT (by have := QU.out; have := PQ.out; have := RP.out; omega)
  have HQ' := Lib.hid (heap_turn HQ.out hT (by have := PQ.out; have := RP.out; omega))
  have HP' := Lib.hid (heap_turn HP.out hT (by have := RP.out; omega))
  have TT' := Lib.hid (TT.out.trans (turn_weak hT (fun k hk => Or.inl hk)))
  have hx := heap_cellI (i := 8) hu1 rfl
  have hf := heap_free (i := 8) hu1
  have R' := Lib.hid hM
  have HU' := Lib.hid hu1
  clear hu1 hM hT R HQ HP TT HU D8
  go_upto_region 21 with fail
  have HU := Lib.hid (show (wa.setCell ⟨u, 8, none⟩ (.bool (v8 == 1))).heap[u]? = some (.cells #[.int .i64 v0, .int .i64 v1, .int .i64 v2, .int .i64 v3, .int .i64 v4, .string v5, .int .i64 v6, .int .i64 v7, .bool (v8 == 1), .int .i64 0, .string ⟨#[]⟩] 29 (0, 0)) from heap_set HU'.out)
  have hts : Turn (fun k => k = u) wa (wa.setCell ⟨u, 8, none⟩ (.bool (v8 == 1))) := Turn.setCell rfl
  have HQ := Lib.hid (heap_turn HQ'.out hts (by have := QU.out; omega))
  have HP := Lib.hid (heap_turn HP'.out hts (by have := PQ.out; have := QU.out; omega))
  have R := Lib.hid (R'.out.fresh hts (by have := PQ.out; have := QU.out; have := RP.out; omega) (fun h0 q' o e => by have := AP.out h0 q' o e; have := PQ.out; have := QU.out; omega))
  have TT := Lib.hid (TT'.out.trans (turn_weak hts (fun k hk => Or.inr (by have := PQ.out; have := QU.out; omega))))
  generalize wa.setCell ⟨u, 8, none⟩ (.bool (v8 == 1)) = wb8 at HU HQ HP R TT ⊢
  clear hx hf hts HP' TT' R' HQ' HU'
  have D9 := Lib.hid (C9.out _ R.out)
  clear C9
  go_wp2_with fail
  with_reducible refine D9.out.mono ?_
  rintro e wa ⟨rfl, hM, hT⟩
  have hu1 := heap_turn HU.out hT (by have := QU.out; have := PQ.out; have := RP.out; omega)
  have HQ' := Lib.hid (heap_turn HQ.out hT (by have := PQ.out; have := RP.out; omega))
  have HP' := Lib.hid (heap_turn HP.out hT (by have := RP.out; omega))
  have TT' := Lib.hid (TT.out.trans (turn_weak hT (fun k hk => Or.inl hk)))
  have hx := heap_cellI (i := 9) hu1 rfl
  have hf := heap_free (i := 9) hu1
  have R' := Lib.hid hM
  have HU' := Lib.hid hu1
  clear hu1 hM hT R HQ HP TT HU D9
  go_upto_region 22 with fail
  have HU := Lib.hid (show (wa.setCell ⟨u, 9, none⟩ (.int .i64 v9)).heap[u]? = some (.cells #[.int .i64 v0, .int .i64 v1, .int .i64 v2, .int .i64 v3, .int .i64 v4, .string v5, .int .i64 v6, .int .i64 v7, .bool (v8 == 1), .int .i64 v9, .string ⟨#[]⟩] 29 (0, 0)) from heap_set HU'.out)
  have hts : Turn (fun k => k = u) wa (wa.setCell ⟨u, 9, none⟩ (.int .i64 v9)) := Turn.setCell rfl
  have HQ := Lib.hid (heap_turn HQ'.out hts (by have := QU.out; omega))
  have HP := Lib.hid (heap_turn HP'.out hts (by have := PQ.out; have := QU.out; omega))
  have R := Lib.hid (R'.out.fresh hts (by have := PQ.out; have := QU.out; have := RP.out; omega) (fun h0 q' o e => by have := AP.out h0 q' o e; have := PQ.out; have := QU.out; omega))
  have TT := Lib.hid (TT'.out.trans (turn_weak hts (fun k hk => Or.inr (by have := PQ.out; have := QU.out; omega))))
  generalize wa.setCell ⟨u, 9, none⟩ (.int .i64 v9) = wb9 at HU HQ HP R TT ⊢
  clear hx hf hts HP' TT' R' HQ' HU'
  have D10 := Lib.hid (C10.out _ R.out)
  clear C10
  go_wp2_with fail
  with_reducible refine D10.out.mono ?_
  rintro e wa ⟨rfl, hM, hT⟩
  have hu1 := heap_turn HU.out hT (by have := QU.out; have := PQ.out; have := RP.out; omega)
  have HQ' := Lib.hid (heap_turn HQ.out hT (by have := PQ.out; have := RP.out; omega))
  have HP' := Lib.hid (heap_turn HP.out hT (by have := RP.out; omega))
  have TT' := Lib.hid (TT.out.trans (turn_weak hT (fun k hk => Or.inl hk)))
  have hx := heap_cellI (i := 10) hu1 rfl
  have hf := heap_free (i := 10) hu1
  have R' := Lib.hid hM
  have HU' := Lib.hid hu1
  clear hu1 hM hT R HQ HP TT HU D10
  go_upto_region 23 with fail
  have HU := Lib.hid (show (wa.setCell ⟨u, 10, none⟩ (.string v10)).heap[u]? = some (.cells #[.int .i64 v0, .int .i64 v1, .int .i64 v2, .int .i64 v3, .int .i64 v4, .string v5, .int .i64 v6, .int .i64 v7, .bool (v8 == 1), .int .i64 v9, .string v10] 29 (0, 0)) from heap_set HU'.out)
  have hts : Turn (fun k => k = u) wa (wa.setCell ⟨u, 10, none⟩ (.string v10)) := Turn.setCell rfl
  have HQ := Lib.hid (heap_turn HQ'.out hts (by have := QU.out; omega))
  have HP := Lib.hid (heap_turn HP'.out hts (by have := PQ.out; have := QU.out; omega))
  have R := Lib.hid (R'.out.fresh hts (by have := PQ.out; have := QU.out; have := RP.out; omega) (fun h0 q' o e => by have := AP.out h0 q' o e; have := PQ.out; have := QU.out; omega))
  have TT := Lib.hid (TT'.out.trans (turn_weak hts (fun k hk => Or.inr (by have := PQ.out; have := QU.out; omega))))
  generalize wa.setCell ⟨u, 10, none⟩ (.string v10) = wb10 at HU HQ HP R TT ⊢
  clear hx hf hts HP' TT' R' HQ' HU'
  have HT := Lib.hid (show wb10.there q 6 11 from there_heap HQ.out (by decide))
  have EP : putsA #[.int .i64 3, .int .i64 0, .int .i64 0, .int .i64 0, .int .i64 0, .int .i64 0, .int .i64 0, .int .i64 0, .int .i64 0, .int .i64 0, .int .i64 0, .string ⟨#[]⟩, .int .i64 0, .int .i64 0, .bool false, .int .i64 0, .string ⟨#[]⟩, .int .i64 0, .int .i64 0, .int .i64 0, .int .i64 0, .int .i64 0, .int .i64 0, .slice .none 0 0, .bool false, .int .i64 0, .int .i64 0] 6 [.int .i64 v0, .int .i64 v1, .int .i64 v2, .int .i64 v3, .int .i64 v4, .string v5, .int .i64 v6, .int .i64 v7, .bool (v8 == 1), .int .i64 v9, .string v10] = #[.int .i64 3, .int .i64 0, .int .i64 0, .int .i64 0, .int .i64 0, .int .i64 0, .int .i64 v0, .int .i64 v1, .int .i64 v2, .int .i64 v3, .int .i64 v4, .string v5, .int .i64 v6, .int .i64 v7, .bool (v8 == 1), .int .i64 v9, .string v10, .int .i64 0, .int .i64 0, .int .i64 0, .int .i64 0, .int .i64 0, .int .i64 0, .slice .none 0 0, .bool false, .int .i64 0, .int .i64 0] := by kernel_rfl
  go_upto_region 38 with (first | (refine wpList_load_row rfl 29 (.tmp 6) rfl u rfl 29 #[.int .i64 v0, .int .i64 v1, .int .i64 v2, .int .i64 v3, .int .i64 v4, .string v5, .int .i64 v6, .int .i64 v7, .bool (v8 == 1), .int .i64 v9, .string v10] (0, 0) _ HU.out Try.underlying29 rfl (by kernel_rfl) ?_) | (refine wpList_store_mid rfl 29 (.tmp 75) (.tmp 74) rfl q 6 #[.int .i64 v0, .int .i64 v1, .int .i64 v2, .int .i64 v3, .int .i64 v4, .string v5, .int .i64 v6, .int .i64 v7, .bool (v8 == 1), .int .i64 v9, .string v10] rfl rfl HT.out (by kernel_rfl) (by simp [Value.oneCell']) ?_) | fail)
  have HQ2 := Lib.hid (heap_setCells [.int .i64 v0, .int .i64 v1, .int .i64 v2, .int .i64 v3, .int .i64 v4, .string v5, .int .i64 v6, .int .i64 v7, .bool (v8 == 1), .int .i64 v9, .string v10] 6 wb10 _ HQ.out)
  rw [EP] at HQ2
  have hts : Turn (fun k => k = q) wb10 (wb10.setCells q 6 [.int .i64 v0, .int .i64 v1, .int .i64 v2, .int .i64 v3, .int .i64 v4, .string v5, .int .i64 v6, .int .i64 v7, .bool (v8 == 1), .int .i64 v9, .string v10]) := turn_setCells [.int .i64 v0, .int .i64 v1, .int .i64 v2, .int .i64 v3, .int .i64 v4, .string v5, .int .i64 v6, .int .i64 v7, .bool (v8 == 1), .int .i64 v9, .string v10] 6 wb10
  have HP2 := Lib.hid (heap_turn HP.out hts (by have := PQ.out; omega))
  have R2 := Lib.hid (R.out.fresh hts (by have := PQ.out; have := RP.out; omega) (fun h0 q' o e => by have := AP.out h0 q' o e; have := PQ.out; omega))
  have TT2 := Lib.hid (TT.out.trans (turn_weak hts (fun k hk => Or.inr (by have := PQ.out; omega))))
  generalize (wb10.setCells q 6 [.int .i64 v0, .int .i64 v1, .int .i64 v2, .int .i64 v3, .int .i64 v4, .string v5, .int .i64 v6, .int .i64 v7, .bool (v8 == 1), .int .i64 v9, .string v10]) = w9 at HQ2 HP2 R2 TT2 ⊢
  clear hts HQ HP R TT HU EP HT
  go_wp2_with (first | (refine wpList_load_row rfl 46 (.tmp 5) rfl q rfl 46 #[.int .i64 3, .int .i64 0, .int .i64 0, .int .i64 0, .int .i64 0, .int .i64 0, .int .i64 v0, .int .i64 v1, .int .i64 v2, .int .i64 v3, .int .i64 v4, .string v5, .int .i64 v6, .int .i64 v7, .bool (v8 == 1), .int .i64 v9, .string v10, .int .i64 0, .int .i64 0, .int .i64 0, .int .i64 0, .int .i64 0, .int .i64 0, .slice .none 0 0, .bool false, .int .i64 0, .int .i64 0] (0, 0) _ HQ2.out Try.underlying46 rfl (by kernel_rfl) ?_) | (refine wpList_store_row rfl 46 (.tmp 4) (.tmp 118) rfl p #[.int .i64 3, .int .i64 0, .int .i64 0, .int .i64 0, .int .i64 0, .int .i64 0, .int .i64 v0, .int .i64 v1, .int .i64 v2, .int .i64 v3, .int .i64 v4, .string v5, .int .i64 v6, .int .i64 v7, .bool (v8 == 1), .int .i64 v9, .string v10, .int .i64 0, .int .i64 0, .int .i64 0, .int .i64 0, .int .i64 0, .int .i64 0, .slice .none 0 0, .bool false, .int .i64 0, .int .i64 0] rfl rfl 46 #[.int .i64 0, .int .i64 0, .int .i64 0, .int .i64 0, .int .i64 0, .int .i64 0, .int .i64 0, .int .i64 0, .int .i64 0, .int .i64 0, .int .i64 0, .string ⟨#[]⟩, .int .i64 0, .int .i64 0, .bool false, .int .i64 0, .string ⟨#[]⟩, .int .i64 0, .int .i64 0, .int .i64 0, .int .i64 0, .int .i64 0, .int .i64 0, .slice .none 0 0, .bool false, .int .i64 0, .int .i64 0] HP2.out (by kernel_rfl) rfl (by simp [Value.oneCell']) ?_) | fail)
  (try simp only [Exit.inBlock, Exit.then])
  refine bodyPost_ret (results_cell_row rfl _ _ p 46 #[.int .i64 3, .int .i64 0, .int .i64 0, .int .i64 0, .int .i64 0, .int .i64 0, .int .i64 v0, .int .i64 v1, .int .i64 v2, .int .i64 v3, .int .i64 v4, .string v5, .int .i64 v6, .int .i64 v7, .bool (v8 == 1), .int .i64 v9, .string v10, .int .i64 0, .int .i64 0, .int .i64 0, .int .i64 0, .int .i64 0, .int .i64 0, .slice .none 0 0, .bool false, .int .i64 0, .int .i64 0] (0, 0) _ rfl (setRow_heap _ p _ _ _ _ HP2.out) Try.underlying46 rfl (by kernel_rfl)) rfl ?_
  have PL := (Array.getElem?_eq_some_iff.1 HP2.out).1
  have bb := below_setRow (Below.refl p w9) (Nat.le_refl p) #[.int .i64 3, .int .i64 0, .int .i64 0, .int .i64 0, .int .i64 0, .int .i64 0, .int .i64 v0, .int .i64 v1, .int .i64 v2, .int .i64 v3, .int .i64 v4, .string v5, .int .i64 v6, .int .i64 v7, .bool (v8 == 1), .int .i64 v9, .string v10, .int .i64 0, .int .i64 0, .int .i64 0, .int .i64 0, .int .i64 0, .int .i64 0, .slice .none 0 0, .bool false, .int .i64 0, .int .i64 0]
  refine ⟨rfl, R2.out.old bb (by omega) RP.out AP.out, ?_⟩
  rw [HPH.out]
  exact TT2.out.trans (turn_weak (turn_above bb) (fun k hk => Or.inr hk))
end Go.Proofs.Ythboiklcjpnhbaa
/- messages in the document: read, a Reply (by gen/me6.py) -/
namespace Go.Proofs.Ythboiklcjpnhbaa
open Go.RowKit
set_option linter.unusedVariables false
set_option maxRecDepth 20000
set_option maxRecDepth 100000
theorem holdsK_fresh {w w' : World} {F : Nat → Prop} {a : Option Addr} {n : Nat} {ks : List KV} (h : HoldsK w a n ks) (t : Turn F w w') (hs : 0 < n → ∀ fb fo, a = some ⟨fb, fo, none⟩ → ¬ F fb) : HoldsK w' a n ks := by
  refine ⟨h.1, fun h0 => ?_⟩
  obtain ⟨b, o, ha, hc⟩ := h.2 h0
  refine ⟨b, o, ha, fun i hi => ?_⟩
  have lb := lt_of_cell (hc i hi).1
  have hn := hs h0 b o ha
  exact ⟨(t.cell lb hn).trans (hc i hi).1, (t.cell lb hn).trans (hc i hi).2⟩
theorem turn_setRow (w : World) (p : Nat) (cs : Array Value) : Turn (fun k => k = p) w (w.setRow p cs) := ⟨rfl, rfl, rfl, by simp, fun k _ hn => setRow_other w p k cs hn⟩
def dRx (n : Nat) (s : RS) : RS := dNum n 4 (dNum n 4 (dNum n 4 (dNum n 4 (dNum n 4 (dNum n 4 s)))))
def dMx (bs : List Nat) (n : Nat) (s : RS) : Int := dG bs n 1 (dRx n s)
def dRepS (bs : List Nat) (n : Nat) (s : RS) (j : Nat) : RS := dNum n 1 (dIs bs n j (dNum n 1 (dRx n s)))
def dRep (bs : List Nat) (n : Nat) (s : RS) (ia : Option Addr) (j ic : Nat) : RepP :=
  let s1 := dNum n 4 s
  let s2 := dNum n 4 s1
  let s3 := dNum n 4 s2
  let s4 := dNum n 4 s3
  let s5 := dNum n 4 s4
  let s6 := dNum n 4 s5
  ⟨dG bs n 4 s, dG bs n 4 s1, dG bs n 4 s2, dG bs n 4 s3, dG bs n 4 s4, dG bs n 4 s5, ia, j, ic, dIl bs n j (dNum n 1 s6), (dG bs n 1 (dIs bs n j (dNum n 1 s6)) == 1)⟩
def DRepP (r : Nat) (a : Option Addr) (n cap : Nat) (bs : List Nat) (s : RS) (m : Nat) (w : World) (e : Ending) (w' : World) : Prop :=
  ∃ (j : Nat) (ia : Option Addr) (ic : Nat), j ≤ m ∧ (j = m ∨ (dIs bs n j (dNum n 1 (dRx n s))).bad = true) ∧ e = .returned (msgC (.reply (dRep bs n s ia j ic))) ∧ (HoldsK w' ia j (dIl bs n j (dNum n 1 (dRx n s))) ∧ (ia = .none → j = 0 ∧ ic = 0) ∧ j ≤ ic) ∧ (∀ q' o, 0 < j → ia = some ⟨q', o, none⟩ → w.heap.size ≤ q') ∧ RdS r a n cap bs (dRepS bs n s j) w' ∧ Turn (fun k => k = r ∨ w.heap.size ≤ k) w w'
set_option maxHeartbeats 12800000 in
theorem dRead_Reply (m : Nat) (m256 : m < 256) {r : Nat} {a : Option Addr} {n cap : Nat} {bs : List Nat} {s : RS} (w : World) (h : RdS r a n cap bs s w) (hm : dMx bs n s = (m : Int)) :
    Calls Try.prog 51 #[.pointer (some ⟨r, 0, none⟩), .int .i64 4] w (DRepP r a n cap bs s m w) := by
  have M256 := Lib.hid m256
  obtain ⟨v0, hv0⟩ : ∃ v : Int, dG bs n 4 s = v := ⟨_, rfl⟩
  obtain ⟨s1, hs1⟩ : ∃ t, dNum n 4 s = t := ⟨_, rfl⟩
  have C0 := Lib.hid (fun w' (h : RdS r a n cap bs s w') => dsNum 4 4 rfl (by omega) (by omega) w' h)
  rw [hv0, hs1] at C0
  obtain ⟨v1, hv1⟩ : ∃ v : Int, dG bs n 4 s1 = v := ⟨_, rfl⟩
  obtain ⟨s2, hs2⟩ : ∃ t, dNum n 4 s1 = t := ⟨_, rfl⟩
  have C1 := Lib.hid (fun w' (h : RdS r a n cap bs s1 w') => dsNum 4 4 rfl (by omega) (by omega) w' h)
  rw [hv1, hs2] at C1
  obtain ⟨v2, hv2⟩ : ∃ v : Int, dG bs n 4 s2 = v := ⟨_, rfl⟩
  obtain ⟨s3, hs3⟩ : ∃ t, dNum n 4 s2 = t := ⟨_, rfl⟩
  have C2 := Lib.hid (fun w' (h : RdS r a n cap bs s2 w') => dsNum 4 4 rfl (by omega) (by omega) w' h)
  rw [hv2, hs3] at C2
  obtain ⟨v3, hv3⟩ : ∃ v : Int, dG bs n 4 s3 = v := ⟨_, rfl⟩
  obtain ⟨s4, hs4⟩ : ∃ t, dNum n 4 s3 = t := ⟨_, rfl⟩
  have C3 := Lib.hid (fun w' (h : RdS r a n cap bs s3 w') => dsNum 4 4 rfl (by omega) (by omega) w' h)
  rw [hv3, hs4] at C3
  obtain ⟨v4, hv4⟩ : ∃ v : Int, dG bs n 4 s4 = v := ⟨_, rfl⟩
  obtain ⟨s5, hs5⟩ : ∃ t, dNum n 4 s4 = t := ⟨_, rfl⟩
  have C4 := Lib.hid (fun w' (h : RdS r a n cap bs s4 w') => dsNum 4 4 rfl (by omega) (by omega) w' h)
  rw [hv4, hs5] at C4
  obtain ⟨v5, hv5⟩ : ∃ v : Int, dG bs n 4 s5 = v := ⟨_, rfl⟩
  obtain ⟨s6, hs6⟩ : ∃ t, dNum n 4 s5 = t := ⟨_, rfl⟩
  have C5 := Lib.hid (fun w' (h : RdS r a n cap bs s5 w') => dsNum 4 4 rfl (by omega) (by omega) w' h)
  rw [hv5, hs6] at C5
  have e6 : dRx n s = s6 := by unfold dRx; rw [hs1, hs2, hs3, hs4, hs5, hs6]
  have h6 : dG bs n 1 s6 = (m : Int) := by rw [← e6]; exact hm
  obtain ⟨s7, hs7⟩ : ∃ t, dNum n 1 s6 = t := ⟨_, rfl⟩
  have C6 := Lib.hid (fun w' (h : RdS r a n cap bs s6 w') => dsNum 1 1 rfl (by omega) (by omega) w' h)
  rw [h6, hs7] at C6
  have C7 := Lib.hid (fun t w' (h : RdS r a n cap bs t w') => dsNum 1 1 rfl (by omega) (by omega) w' h)
  have FF := Lib.hid (show ∀ (j : Nat) (ia : Option Addr) (ic : Nat) (ks : List KV) (t8 : RS) (vf : Int) (w' : World), j ≤ m → (j = m ∨ t8.bad = true) → dIs bs n j s7 = t8 → dIl bs n j s7 = ks → dG bs n 1 t8 = vf → (HoldsK w' ia j ks ∧ (ia = .none → j = 0 ∧ ic = 0) ∧ j ≤ ic) → (∀ q' o, 0 < j → ia = some ⟨q', o, none⟩ → w.heap.size ≤ q') → RdS r a n cap bs (dNum n 1 t8) w' → Turn (fun k => k = r ∨ w.heap.size ≤ k) w w' → DRepP r a n cap bs s m w (.returned (.agg #[.int .i64 4, .int .i64 0, .int .i64 0, .int .i64 0, .int .i64 0, .int .i64 0, .int .i64 0, .int .i64 0, .int .i64 0, .int .i64 0, .int .i64 0, .string ⟨#[]⟩, .int .i64 0, .int .i64 0, .bool false, .int .i64 0, .string ⟨#[]⟩, .int .i64 v0, .int .i64 v1, .int .i64 v2, .int .i64 v3, .int .i64 v4, .int .i64 v5, .slice ia j ic, .bool (vf == 1), .int .i64 0, .int .i64 0])) w' from by
    intro j ia ic ks t8 vf w' h1 h2 h3 h4 h5 h6 h9 h7 h8
    refine ⟨j, ia, ic, h1, by rw [e6, hs7, h3]; exact h2, ?_, by rw [e6, hs7, h4]; exact h6, h9, by unfold dRepS; rw [e6, hs7, h3]; exact h7, h8⟩
    simp only [dRep, msgC, hs1, hs2, hs3, hs4, hs5, hs6, hs7, h3, h4, h5, hv0, hv1, hv2, hv3, hv4, hv5])
  have LR := Lib.hid (lt_of_cell h.m.c0)
  have AL := Lib.hid (show 0 < n → ∀ q o, a = some ⟨q, o, none⟩ → q < w.heap.size from fun h0 => h.lt h0)
  obtain ⟨w1, hw1⟩ : ∃ w1, w.alloc (.cells #[.int .i64 0, .int .i64 0, .int .i64 0, .int .i64 0, .int .i64 0, .int .i64 0, .int .i64 0, .int .i64 0, .int .i64 0, .int .i64 0, .int .i64 0, .string ⟨#[]⟩, .int .i64 0, .int .i64 0, .bool false, .int .i64 0, .string ⟨#[]⟩, .int .i64 0, .int .i64 0, .int .i64 0, .int .i64 0, .int .i64 0, .int .i64 0, .slice .none 0 0, .bool false, .int .i64 0, .int .i64 0] 46) = w1 := ⟨_, rfl⟩
  have HP1 := Lib.hid (show w1.heap[w.heap.size]? = some (.cells #[.int .i64 0, .int .i64 0, .int .i64 0, .int .i64 0, .int .i64 0, .int .i64 0, .int .i64 0, .int .i64 0, .int .i64 0, .int .i64 0, .int .i64 0, .string ⟨#[]⟩, .int .i64 0, .int .i64 0, .bool false, .int .i64 0, .string ⟨#[]⟩, .int .i64 0, .int .i64 0, .int .i64 0, .int .i64 0, .int .i64 0, .int .i64 0, .slice .none 0 0, .bool false, .int .i64 0, .int .i64 0] 46 (0, 0)) from hw1 ▸ heap_alloc_new w _)
  have B1 := Lib.hid (show Below w.heap.size w w1 from hw1 ▸ below_one w _)
  have LW := Lib.hid (show w.heap.size < w1.heap.size from (Array.getElem?_eq_some_iff.1 HP1.out).1)
  have HQ1 := Lib.hid (heap_alloc_new w1 (.cells #[.int .i64 0, .int .i64 0, .int .i64 0, .int .i64 0, .int .i64 0, .int .i64 0, .int .i64 0, .int .i64 0, .int .i64 0, .int .i64 0, .int .i64 0, .string ⟨#[]⟩, .int .i64 0, .int .i64 0, .bool false, .int .i64 0, .string ⟨#[]⟩, .int .i64 0, .int .i64 0, .int .i64 0, .int .i64 0, .int .i64 0, .int .i64 0, .slice .none 0 0, .bool false, .int .i64 0, .int .i64 0] 46))
  obtain ⟨p, hp⟩ : ∃ p, w.heap.size = p := ⟨_, rfl⟩
  have HPH := Lib.hid hp
  rw [hp] at HP1
  have M0 := Lib.hid h
  clear h e6 h6 hm m256 hs7 hv0 hs1 hv1 hs2 hv2 hs3 hv3 hs4 hv4 hs5 hv5 hs6
  go_enter Try.func51, Try.ntmps51
  go_upto_region 1 with fail
  try rw [hw1]
  try simp only [hp]
  clear hw1 hp
  go_upto_region 2 with (first | (refine wpList_store_row rfl 46 (.tmp 5) (.tmp 9) rfl w1.heap.size #[.int .i64 4, .int .i64 0, .int .i64 0, .int .i64 0, .int .i64 0, .int .i64 0, .int .i64 0, .int .i64 0, .int .i64 0, .int .i64 0, .int .i64 0, .string ⟨#[]⟩, .int .i64 0, .int .i64 0, .bool false, .int .i64 0, .string ⟨#[]⟩, .int .i64 0, .int .i64 0, .int .i64 0, .int .i64 0, .int .i64 0, .int .i64 0, .slice .none 0 0, .bool false, .int .i64 0, .int .i64 0] rfl rfl 46 #[.int .i64 0, .int .i64 0, .int .i64 0, .int .i64 0, .int .i64 0, .int .i64 0, .int .i64 0, .int .i64 0, .int .i64 0, .int .i64 0, .int .i64 0, .string ⟨#[]⟩, .int .i64 0, .int .i64 0, .bool false, .int .i64 0, .string ⟨#[]⟩, .int .i64 0, .int .i64 0, .int .i64 0, .int .i64 0, .int .i64 0, .int .i64 0, .slice .none 0 0, .bool false, .int .i64 0, .int .i64 0] HQ1.out (by kernel_rfl) rfl (by simp [Value.oneCell']) ?_) | fail)
  obtain ⟨w2, hw2⟩ : ∃ w2, (w1.alloc (.cells #[.int .i64 0, .int .i64 0, .int .i64 0, .int .i64 0, .int .i64 0, .int .i64 0, .int .i64 0, .int .i64 0, .int .i64 0, .int .i64 0, .int .i64 0, .string ⟨#[]⟩, .int .i64 0, .int .i64 0, .bool false, .int .i64 0, .string ⟨#[]⟩, .int .i64 0, .int .i64 0, .int .i64 0, .int .i64 0, .int .i64 0, .int .i64 0, .slice .none 0 0, .bool false, .int .i64 0, .int .i64 0] 46)).setRow w1.heap.size #[.int .i64 4, .int .i64 0, .int .i64 0, .int .i64 0, .int .i64 0, .int .i64 0, .int .i64 0, .int .i64 0, .int .i64 0, .int .i64 0, .int .i64 0, .string ⟨#[]⟩, .int .i64 0, .int .i64 0, .bool false, .int .i64 0, .string ⟨#[]⟩, .int .i64 0, .int .i64 0, .int .i64 0, .int .i64 0, .int .i64 0, .int .i64 0, .slice .none 0 0, .bool false, .int .i64 0, .int .i64 0] = w2 := ⟨_, rfl⟩
  have HQ0 := Lib.hid (show w2.heap[w1.heap.size]? = some (.cells #[.int .i64 4, .int .i64 0, .int .i64 0, .int .i64 0, .int .i64 0, .int .i64 0, .int .i64 0, .int .i64 0, .int .i64 0, .int .i64 0, .int .i64 0, .string ⟨#[]⟩, .int .i64 0, .int .i64 0, .bool false, .int .i64 0, .string ⟨#[]⟩, .int .i64 0, .int .i64 0, .int .i64 0, .int .i64 0, .int .i64 0, .int .i64 0, .slice .none 0 0, .bool false, .int .i64 0, .int .i64 0] 46 (0, 0)) from hw2 ▸ setRow_heap _ _ _ _ _ _ HQ1.out)
  have b12 : Below w1.heap.size w1 w2 := hw2 ▸ below_setRow (below_one w1 _) (Nat.le_refl _) #[.int .i64 4, .int .i64 0, .int .i64 0, .int .i64 0, .int .i64 0, .int .i64 0, .int .i64 0, .int .i64 0, .int .i64 0, .int .i64 0, .int .i64 0, .string ⟨#[]⟩, .int .i64 0, .int .i64 0, .bool false, .int .i64 0, .string ⟨#[]⟩, .int .i64 0, .int .i64 0, .int .i64 0, .int .i64 0, .int .i64 0, .int .i64 0, .slice .none 0 0, .bool false, .int .i64 0, .int .i64 0]
  have HP0 := Lib.hid (heap_keep HP1.out b12)
  have BW := B1.out.trans (b12.mono B1.out.size)
  have R0 := Lib.hid (M0.out.below BW)
  have TT0 := Lib.hid (show Turn (fun k => k = r ∨ p ≤ k) w w2 from Turn.of_below BW)
  rw [hw2]
  obtain ⟨q, hq⟩ : ∃ q, w1.heap.size = q := ⟨_, rfl⟩
  have PQ := Lib.hid (show p < q from by have h1 := LW.out; have h2 := HPH.out; omega)
  have RP := Lib.hid (show r < p from by have h1 := LR.out; have h2 := HPH.out; omega)
  have AP := Lib.hid (show 0 < n → ∀ q' o, a = some ⟨q', o, none⟩ → q' < p from fun h0 q' o e => by have h1 := AL.out h0 q' o e; have h2 := HPH.out; omega)
  rw [hq] at HQ0
  try simp only [hq]
  clear hw2 b12 BW HP1 HQ1 M0 hq LW LR AL B1
  go_upto_region 26 with fail
  have HU := Lib.hid (heap_alloc_new w2 (.cells #[.int .i64 0, .int .i64 0, .int .i64 0, .int .i64 0, .int .i64 0, .int .i64 0, .slice .none 0 0, .bool false] 32))
  have HQ := Lib.hid (heapD (o2 := .cells #[.int .i64 0, .int .i64 0, .int .i64 0, .int .i64 0, .int .i64 0, .int .i64 0, .slice .none 0 0, .bool false] 32) HQ0.out)
  have HP := Lib.hid (heapD (o2 := .cells #[.int .i64 0, .int .i64 0, .int .i64 0, .int .i64 0, .int .i64 0, .int .i64 0, .slice .none 0 0, .bool false] 32) HP0.out)
  have R := Lib.hid (R0.out.below (below_one w2 (.cells #[.int .i64 0, .int .i64 0, .int .i64 0, .int .i64 0, .int .i64 0, .int .i64 0, .slice .none 0 0, .bool false] 32)))
  have TT := Lib.hid (TT0.out.trans (Turn.of_below (F := fun k => k = r ∨ p ≤ k) (below_one w2 (.cells #[.int .i64 0, .int .i64 0, .int .i64 0, .int .i64 0, .int .i64 0, .int .i64 0, .slice .none 0 0, .bool false] 32))))
  have QU0 := (Array.getElem?_eq_some_iff.1 HQ0.out).1
  generalize w2.alloc (.cells #[.int .i64 0, .int .i64 0, .int .i64 0, .int .i64 0, .int .i64 0, .int .i64 0, .slice .none 0 0, .bool false] 32) = w3 at HU HQ HP R TT ⊢
  obtain ⟨u, hu⟩ : ∃ u, w2.heap.size = u := ⟨_, rfl⟩
  rw [hu] at HU QU0
  try simp only [hu]
  have QU := Lib.hid QU0
  clear hu QU0 HQ0 HP0 R0 TT0
  have D0 := Lib.hid (C0.out _ R.out)
  clear C0
  go_wp2_with fail
  with_reducible refine D0.out.mono ?_
  rintro e wa ⟨rfl, hM, hT⟩
  have hu1 := heap_turn HU.out hT (by have := QU.out; have := PQ.out; have := RP.out; omega)
  have HQ' := Lib.hid (heap_turn HQ.out hT (by have := PQ.out; have := RP.out; omega))
  have HP' := Lib.hid (heap_turn HP.out hT (by have := RP.out; omega))
  have TT' := Lib.hid (TT.out.trans (turn_weak hT (fun k hk => Or.inl hk)))
  have hx := heap_cellI (i := 0) hu1 rfl
  have hf := heap_free (i := 0) hu1
  have R' := Lib.hid hM
  have HU' := Lib.hid hu1
  clear hu1 hM hT R HQ HP TT HU D0
  go_upto_region 27 with fail
  have HU := Lib.hid (show (wa.setCell ⟨u, 0, none⟩ (.int .i64 v0)).heap[u]? = some (.cells #[.int .i64 v0, .int .i64 0, .int .i64 0, .int .i64 0, .int .i64 0, .int .i64 0, .slice .none 0 0, .bool false] 32 (0, 0)) from heap_set HU'.out)
  have hts : Turn (fun k => k = u) wa (wa.setCell ⟨u, 0, none⟩ (.int .i64 v0)) := Turn.setCell rfl
  have HQ := Lib.hid (heap_turn HQ'.out hts (by have := QU.out; omega))
  have HP := Lib.hid (heap_turn HP'.out hts (by have := PQ.out; have := QU.out; omega))
  have R := Lib.hid (R'.out.fresh hts (by have := PQ.out; have := QU.out; have := RP.out; omega) (fun h0 q' o e => by have := AP.out h0 q' o e; have := PQ.out; have := QU.out; omega))
  have TT := Lib.hid (TT'.out.trans (turn_weak hts (fun k hk => Or.inr (by have := PQ.out; have := QU.out; omega))))
  generalize wa.setCell ⟨u, 0, none⟩ (.int .i64 v0) = wb0 at HU HQ HP R TT ⊢
  clear hx hf hts HP' TT' R' HQ' HU'
  have D1 := Lib.hid (C1.out _ R.out)
  clear C1
  go_wp2_with fail
  with_reducible refine D1.out.mono ?_
  rintro e wa ⟨rfl, hM, hT⟩
  have hu1 := heap_turn HU.out hT (by have := QU.out; have := PQ.out; have := RP.out; omega)
  have HQ' := Lib.hid (heap_turn HQ.out hT (by have := PQ.out; have := RP.out; omega))
  have HP' := Lib.hid (heap_turn HP.out hT (by have := RP.out; omega))
  have TT' := Lib.hid (TT.out.trans (turn_weak hT (fun k hk => Or.inl hk)))
  have hx := heap_cellI (i := 1) hu1 rfl
  have hf := heap_free (i := 1) hu1
  have R' := Lib.hid hM
  have HU' := Lib.hid hu1
  clear hu1 hM hT R HQ HP TT HU D1
  go_upto_region 28 with fail
  have HU := Lib.hid (show (wa.setCell ⟨u, 1, none⟩ (.int .i64 v1)).heap[u]? = some (.cells #[.int .i64 v0, .int .i64 v1, .int .i64 0, .int .i64 0, .int .i64 0, .int .i64 0, .slice .none 0 0, .bool false] 32 (0, 0)) from heap_set HU'.out)
  have hts : Turn (fun k => k = u) wa (wa.setCell ⟨u, 1, none⟩ (.int .i64 v1)) := Turn.setCell rfl
  have HQ := Lib.hid (heap_turn HQ'.out hts (by have := QU.out; omega))
  have HP := Lib.hid (heap_turn HP'.out hts (by have := PQ.out; have := QU.out; omega))
  have R := Lib.hid (R'.out.fresh hts (by have := PQ.out; have := QU.out; have := RP.out; omega) (fun h0 q' o e => by have := AP.out h0 q' o e; have := PQ.out; have := QU.out; omega))
  have TT := Lib.hid (TT'.out.trans (turn_weak hts (fun k hk => Or.inr (by have := PQ.out; have := QU.out; omega))))
  generalize wa.setCell ⟨u, 1, none⟩ (.int .i64 v1) = wb1 at HU HQ HP R TT ⊢
  clear hx hf hts HP' TT' R' HQ' HU'
  have D2 := Lib.hid (C2.out _ R.out)
  clear C2
  go_wp2_with fail
  with_reducible refine D2.out.mono ?_
  rintro e wa ⟨rfl, hM, hT⟩
  have hu1 := heap_turn HU.out hT (by have := QU.out; have := PQ.out; have := RP.out; omega)
  have HQ' := Lib.hid (heap_turn HQ.out hT (by have := PQ.out; have := RP.out; omega))
  have HP' := Lib.hid (heap_turn HP.out hT (by have := RP.out; omega))
  have TT' := Lib.hid (TT.out.trans (turn_weak hT (fun k hk => Or.inl hk)))
  have hx := heap_cellI (i := 2) hu1 rfl
  have hf := heap_free (i := 2) hu1
  have R' := Lib.hid hM
  have HU' := Lib.hid hu1
  clear hu1 hM hT R HQ HP TT HU D2
  go_upto_region 29 with fail
  have HU := Lib.hid (show (wa.setCell ⟨u, 2, none⟩ (.int .i64 v2)).heap[u]? = some (.cells #[.int .i64 v0, .int .i64 v1, .int .i64 v2, .int .i64 0, .int .i64 0, .int .i64 0, .slice .none 0 0, .bool false] 32 (0, 0)) from heap_set HU'.out)
  have hts : Turn (fun k => k = u) wa (wa.setCell ⟨u, 2, none⟩ (.int .i64 v2)) := Turn.setCell rfl
  have HQ := Lib.hid (heap_turn HQ'.out hts (by have := QU.out; omega))
  have HP := Lib.hid (heap_turn HP'.out hts (by have := PQ.out; have := QU.out; omega))
  have R := Lib.hid (R'.out.fresh hts (by have := PQ.out; have := QU.out; have := RP.out; omega) (fun h0 q' o e => by have := AP.out h0 q' o e; have := PQ.out; have := QU.out; omega))
  have TT := Lib.hid (TT'.out.trans (turn_weak hts (fun k hk => Or.inr (by have := PQ.out; have := QU.out; omega))))
  generalize wa.setCell ⟨u, 2, none⟩ (.int .i64 v2) = wb2 at HU HQ HP R TT ⊢
  clear hx hf hts HP' TT' R' HQ' HU'
  have D3 := Lib.hid (C3.out _ R.out)
  clear C3
  go_wp2_with fail
  with_reducible refine D3.out.mono ?_
  rintro e wa ⟨rfl, hM, hT⟩
  have hu1 := heap_turn HU.out hT (by have := QU.out; have := PQ.out; have := RP.out; omega)
  have HQ' := Lib.hid (heap_turn HQ.out hT (by have := PQ.out; have := RP.out; omega))
  have HP' := Lib.hid (heap_turn HP.out hT (by have := RP.out; omega))
  have TT' := Lib.hid (TT.out.trans (turn_weak hT (fun k hk => Or.inl hk)))
  have hx := heap_cellI (i := 3) hu1 rfl
  have hf := heap_free (i := 3) hu1
  have R' := Lib.hid hM
  have HU' := Lib.hid hu1
  clear hu1 hM hT R HQ HP TT HU D3
  go_upto_region 30 with fail
  have HU := Lib.hid (show (wa.setCell ⟨u, 3, none⟩ (.int .i64 v3)).heap[u]? = some (.cells #[.int .i64 v0, .int .i64 v1, .int .i64 v2, .int .i64 v3, .int .i64 0, .int .i64 0, .slice .none 0 0, .bool false] 32 (0, 0)) from heap_set HU'.out)
  have hts : Turn (fun k => k = u) wa (wa.setCell ⟨u, 3, none⟩ (.int .i64 v3)) := Turn.setCell rfl
  have HQ := Lib.hid (heap_turn HQ'.out hts (by have := QU.out; omega))
  have HP := Lib.hid (heap_turn HP'.out hts (by have := PQ.out; have := QU.out; omega))
  have R := Lib.hid (R'.out.fresh hts (by have := PQ.out; have := QU.out; have := RP.out; omega) (fun h0 q' o e => by have := AP.out h0 q' o e; have := PQ.out; have := QU.out; omega))
  have TT := Lib.hid (TT'.out.trans (turn_weak hts (fun k hk => Or.inr (by have := PQ.out; have := QU.out; omega))))
  generalize wa.setCell ⟨u, 3, none⟩ (.int .i64 v3) = wb3 at HU HQ HP R TT ⊢
  clear hx hf hts HP' TT' R' HQ' HU'
  have D4 := Lib.hid (C4.out _ R.out)
  clear C4
  go_wp2_with fail
  with_reducible refine D4.out.mono ?_
  rintro e wa ⟨rfl, hM, hT⟩
  have hu1 := heap_turn HU.out hT (by have := QU.out; have := PQ.out; have := RP.out; omega)
  have HQ' := Lib.hid (heap_turn HQ.out hT (by have := PQ.out; have := RP.out; omega))
  have HP' := Lib.hid (heap_turn HP.out hT (by have := RP.out; omega))
  have TT' := Lib.hid (TT.out.trans (turn_weak hT (fun k hk => Or.inl hk)))
  have hx := heap_cellI (i := 4) hu1 rfl
  have hf := heap_free (i := 4) hu1
  have R' := Lib.hid hM
  have HU' := Lib.hid hu1
  clear hu1 hM hT R HQ HP TT HU D4
  go_upto_region 31 with fail
  have HU := Lib.hid (show (wa.setCell ⟨u, 4, none⟩ (.int .i64 v4)).heap[u]? = some (.cells #[.int .i64 v0, .int .i64 v1, .int .i64 v2, .int .i64 v3, .int .i64 v4, .int .i64 0, .slice .none 0 0, .bool false] 32 (0, 0)) from heap_set HU'.out)
  have hts : Turn (fun k => k = u) wa (wa.setCell ⟨u, 4, none⟩ (.int .i64 v4)) := Turn.setCell rfl
  have HQ := Lib.hid (heap_turn HQ'.out hts (by have := QU.out; omega))
  have HP := Lib.hid (heap_turn HP'.out hts (by have := PQ.out; have := QU.out; omega))
  have R := Lib.hid (R'.out.fresh hts (by have := PQ.out; have := QU.out; have := RP.out; omega) (fun h0 q' o e => by have := AP.out h0 q' o e; have := PQ.out; have := QU.out; omega))
  have TT := Lib.hid (TT'.out.trans (turn_weak hts (fun k hk => Or.inr (by have := PQ.out; have := QU.out; omega))))
  generalize wa.setCell ⟨u, 4, none⟩ (.int .i64 v4) = wb4 at HU HQ HP R TT ⊢
  clear hx hf hts HP' TT' R' HQ' HU'
  have D5 := Lib.hid (C5.out _ R.out)
  clear C5
  go_wp2_with fail
  with_reducible refine D5.out.mono ?_
  rintro e wa ⟨rfl, hM, hT⟩
  have hu1 := heap_turn HU.out hT (by have := QU.out; have := PQ.out; have := RP.out; omega)
  have HQ' := Lib.hid (heap_turn HQ.out hT (by have := PQ.out; have := RP.out; omega))
  have HP' := Lib.hid (heap_turn HP.out hT (by have := RP.out; omega))
  have TT' := Lib.hid (TT.out.trans (turn_weak hT (fun k hk => Or.inl hk)))
  have hx := heap_cellI (i := 5) hu1 rfl
  have hf := heap_free (i := 5) hu1
  have R' := Lib.hid hM
  have HU' := Lib.hid hu1
  clear hu1 hM hT R HQ HP TT HU D5
  go_upto_region 32 with fail
  have HU := Lib.hid (show (wa.setCell ⟨u, 5, none⟩ (.int .i64 v5)).heap[u]? = some (.cells #[.int .i64 v0, .int .i64 v1, .int .i64 v2, .int .i64 v3, .int .i64 v4, .int .i64 v5, .slice .none 0 0, .bool false] 32 (0, 0)) from heap_set HU'.out)
  have hts : Turn (fun k => k = u) wa (wa.setCell ⟨u, 5, none⟩ (.int .i64 v5)) := Turn.setCell rfl
  have HQ := Lib.hid (heap_turn HQ'.out hts (by have := QU.out; omega))
  have HP := Lib.hid (heap_turn HP'.out hts (by have := PQ.out; have := QU.out; omega))
  have R := Lib.hid (R'.out.fresh hts (by have := PQ.out; have := QU.out; have := RP.out; omega) (fun h0 q' o e => by have := AP.out h0 q' o e; have := PQ.out; have := QU.out; omega))
  have TT := Lib.hid (TT'.out.trans (turn_weak hts (fun k hk => Or.inr (by have := PQ.out; have := QU.out; omega))))
  generalize wa.setCell ⟨u, 5, none⟩ (.int .i64 v5) = wb5 at HU HQ HP R TT ⊢
  clear hx hf hts HP' TT' R' HQ' HU'
  have D6 := Lib.hid (C6.out _ R.out)
  clear C6
  go_wp2_with fail
  with_reducible refine D6.out.mono ?_
  rintro e wa ⟨rfl, hM, hT⟩
  have hu1 := heap_turn HU.out hT (by have := QU.out; have := PQ.out; have := RP.out; omega)
  have HQ' := Lib.hid (heap_turn HQ.out hT (by have := PQ.out; have := RP.out; omega))
  have HP' := Lib.hid (heap_turn HP.out hT (by have := RP.out; omega))
  have TT' := Lib.hid (TT.out.trans (turn_weak hT (fun k hk => Or.inl hk)))
  have E6 := Lib.hid (dsItems m M256.out wa hM)
  have UL := Lib.hid (Array.getElem?_eq_some_iff.1 hu1).1
  clear HU HQ HP TT R D6 hT
  have HU := Lib.hid hu1
  have HQ := HQ'; have HP := HP'; have TT := TT'
  clear hu1 HQ' HP' TT' hM
  go_wp2_with fail
  with_reducible refine E6.out.mono ?_
  rintro e wc ⟨j, hjm, hjb, ia, ic, rfl, hk, hni, hc, ho, hM, hT⟩
  have hu1 := heap_turn HU.out hT (by have := QU.out; have := PQ.out; have := RP.out; omega)
  have HQ' := Lib.hid (heap_turn HQ.out hT (by have := PQ.out; have := RP.out; omega))
  have HP' := Lib.hid (heap_turn HP.out hT (by have := RP.out; omega))
  have TT' := Lib.hid (TT.out.trans (turn_weak hT (fun k hk => Or.inl hk)))
  have J := Lib.hid (And.intro hjm hjb)
  have NC := Lib.hid (And.intro hni hc)
  have G := Lib.hid (show ∀ q' o, 0 < j → ia = some ⟨q', o, none⟩ → q' ≠ r ∧ q' ≠ u ∧ q' ≠ q ∧ q' ≠ p ∧ p ≤ q' from fun q' o h0 e => by
    obtain ⟨g, cp, hv⟩ := Joins.ownsRow_form ho h0
    simp only [Value.slice.injEq] at hv
    have h1 := (ho.lt g (by rw [hv.1]; rfl)).1
    rw [e] at hv
    obtain ⟨e3, -, -⟩ := hv
    injection e3 with e3; injection e3 with e3 e4
    have h3 := UL.out; have h4 := QU.out; have h5 := PQ.out; have h6 := RP.out
    omega)
  obtain ⟨t8, ht8⟩ : ∃ t, dIs bs n j s7 = t := ⟨_, rfl⟩
  obtain ⟨ks, hks⟩ : ∃ k, dIl bs n j s7 = k := ⟨_, rfl⟩
  rw [hks] at hk
  rw [ht8] at hM J
  have KK' := Lib.hid hk
  have HT8 := Lib.hid ht8; have HKS := Lib.hid hks
  clear hjm hjb hni hc ho hk ht8 hks E6 UL
  have hx := heap_cellI (i := 6) hu1 rfl
  have hf := heap_free (i := 6) hu1
  have R' := Lib.hid hM
  have HU' := Lib.hid hu1
  clear hu1 hM hT HQ HP TT HU
  go_upto_region 33 with fail
  have HU := Lib.hid (show (wc.setCell ⟨u, 6, none⟩ (.slice ia j ic)).heap[u]? = some (.cells #[.int .i64 v0, .int .i64 v1, .int .i64 v2, .int .i64 v3, .int .i64 v4, .int .i64 v5, .slice ia j ic, .bool false] 32 (0, 0)) from heap_set HU'.out)
  have hts : Turn (fun k => k = u) wc (wc.setCell ⟨u, 6, none⟩ (.slice ia j ic)) := Turn.setCell rfl
  have HQ := Lib.hid (heap_turn HQ'.out hts (by have := QU.out; omega))
  have HP := Lib.hid (heap_turn HP'.out hts (by have := PQ.out; have := QU.out; omega))
  have R := Lib.hid (R'.out.fresh hts (by have := PQ.out; have := QU.out; have := RP.out; omega) (fun h0 q' o e => by have := AP.out h0 q' o e; have := PQ.out; have := QU.out; omega))
  have TT := Lib.hid (TT'.out.trans (turn_weak hts (fun k hk => Or.inr (by have := PQ.out; have := QU.out; omega))))
  have KK := Lib.hid (holdsK_fresh KK'.out hts (fun h0 fb fo e => (G.out fb fo h0 e).2.1))
  generalize wc.setCell ⟨u, 6, none⟩ (.slice ia j ic) = wb6 at HU HQ HP R TT KK ⊢
  clear hx hf hts HP' TT' R' HQ' HU' KK'
  have D7 := Lib.hid (C7.out t8 _ R.out)
  obtain ⟨vf, hvf⟩ : ∃ v, dG bs n 1 t8 = v := ⟨_, rfl⟩
  rw [hvf] at D7
  have HVF := Lib.hid hvf
  clear C7 hvf
  go_wp2_with fail
  with_reducible refine D7.out.mono ?_
  rintro e wa ⟨rfl, hM, hT⟩
  have hu1 := heap_turn HU.out hT (by have := QU.out; have := PQ.out; have := RP.out; omega)
  have HQ' := Lib.hid (heap_turn HQ.out hT (by have := PQ.out; have := RP.out; omega))
  have HP' := Lib.hid (heap_turn HP.out hT (by have := RP.out; omega))
  have TT' := Lib.hid (TT.out.trans (turn_weak hT (fun k hk => Or.inl hk)))
  have KK' := Lib.hid (holdsK_fresh KK.out hT (fun h0 fb fo e => (G.out fb fo h0 e).1))
  clear KK
  have hx := heap_cellI (i := 7) hu1 rfl
  have hf := heap_free (i := 7) hu1
  have R' := Lib.hid hM
  have HU' := Lib.hid hu1
  clear hu1 hM hT R HQ HP TT HU D7
  go_upto_region 34 with fail
  have HU := Lib.hid (show (wa.setCell ⟨u, 7, none⟩ (.bool (vf == 1))).heap[u]? = some (.cells #[.int .i64 v0, .int .i64 v1, .int .i64 v2, .int .i64 v3, .int .i64 v4, .int .i64 v5, .slice ia j ic, .bool (vf == 1)] 32 (0, 0)) from heap_set HU'.out)
  have hts : Turn (fun k => k = u) wa (wa.setCell ⟨u, 7, none⟩ (.bool (vf == 1))) := Turn.setCell rfl
  have HQ := Lib.hid (heap_turn HQ'.out hts (by have := QU.out; omega))
  have HP := Lib.hid (heap_turn HP'.out hts (by have := PQ.out; have := QU.out; omega))
  have R := Lib.hid (R'.out.fresh hts (by have := PQ.out; have := QU.out; have := RP.out; omega) (fun h0 q' o e => by have := AP.out h0 q' o e; have := PQ.out; have := QU.out; omega))
  have TT := Lib.hid (TT'.out.trans (turn_weak hts (fun k hk => Or.inr (by have := PQ.out; have := QU.out; omega))))
  have KK := Lib.hid (holdsK_fresh KK'.out hts (fun h0 fb fo e => (G.out fb fo h0 e).2.1))
  generalize wa.setCell ⟨u, 7, none⟩ (.bool (vf == 1)) = wb7 at HU HQ HP R TT KK ⊢
  clear hx hf hts HP' TT' R' HQ' HU' KK'
  have HT := Lib.hid (show wb7.there q 17 8 from there_heap HQ.out (by decide))
  have EP : putsA #[.int .i64 4, .int .i64 0, .int .i64 0, .int .i64 0, .int .i64 0, .int .i64 0, .int .i64 0, .int .i64 0, .int .i64 0, .int .i64 0, .int .i64 0, .string ⟨#[]⟩, .int .i64 0, .int .i64 0, .bool false, .int .i64 0, .string ⟨#[]⟩, .int .i64 0, .int .i64 0, .int .i64 0, .int .i64 0, .int .i64 0, .int .i64 0, .slice .none 0 0, .bool false, .int .i64 0, .int .i64 0] 17 [.int .i64 v0, .int .i64 v1, .int .i64 v2, .int .i64 v3, .int .i64 v4, .int .i64 v5, .slice ia j ic, .bool (vf == 1)] = #[.int .i64 4, .int .i64 0, .int .i64 0, .int .i64 0, .int .i64 0, .int .i64 0, .int .i64 0, .int .i64 0, .int .i64 0, .int .i64 0, .int .i64 0, .string ⟨#[]⟩, .int .i64 0, .int .i64 0, .bool false, .int .i64 0, .string ⟨#[]⟩, .int .i64 v0, .int .i64 v1, .int .i64 v2, .int .i64 v3, .int .i64 v4, .int .i64 v5, .slice ia j ic, .bool (vf == 1), .int .i64 0, .int .i64 0] := by kernel_rfl
  go_upto_region 38 with (first | (refine wpList_load_row rfl 32 (.tmp 7) rfl u rfl 32 #[.int .i64 v0, .int .i64 v1, .int .i64 v2, .int .i64 v3, .int .i64 v4, .int .i64 v5, .slice ia j ic, .bool (vf == 1)] (0, 0) _ HU.out Try.underlying32 rfl (by kernel_rfl) ?_) | (refine wpList_store_mid rfl 32 (.tmp 107) (.tmp 106) rfl q 17 #[.int .i64 v0, .int .i64 v1, .int .i64 v2, .int .i64 v3, .int .i64 v4, .int .i64 v5, .slice ia j ic, .bool (vf == 1)] rfl rfl HT.out (by kernel_rfl) (by simp [Value.oneCell']) ?_) | fail)
  have HQ2 := Lib.hid (heap_setCells [.int .i64 v0, .int .i64 v1, .int .i64 v2, .int .i64 v3, .int .i64 v4, .int .i64 v5, .slice ia j ic, .bool (vf == 1)] 17 wb7 _ HQ.out)
  rw [EP] at HQ2
  have hts : Turn (fun k => k = q) wb7 (wb7.setCells q 17 [.int .i64 v0, .int .i64 v1, .int .i64 v2, .int .i64 v3, .int .i64 v4, .int .i64 v5, .slice ia j ic, .bool (vf == 1)]) := turn_setCells [.int .i64 v0, .int .i64 v1, .int .i64 v2, .int .i64 v3, .int .i64 v4, .int .i64 v5, .slice ia j ic, .bool (vf == 1)] 17 wb7
  have HP2 := Lib.hid (heap_turn HP.out hts (by have := PQ.out; omega))
  have R2 := Lib.hid (R.out.fresh hts (by have := PQ.out; have := RP.out; omega) (fun h0 q' o e => by have := AP.out h0 q' o e; have := PQ.out; omega))
  have TT2 := Lib.hid (TT.out.trans (turn_weak hts (fun k hk => Or.inr (by have := PQ.out; omega))))
  have KK2 := Lib.hid (holdsK_fresh KK.out hts (fun h0 fb fo e => (G.out fb fo h0 e).2.2.1))
  generalize (wb7.setCells q 17 [.int .i64 v0, .int .i64 v1, .int .i64 v2, .int .i64 v3, .int .i64 v4, .int .i64 v5, .slice ia j ic, .bool (vf == 1)]) = w9 at HQ2 HP2 R2 TT2 KK2 ⊢
  clear hts HQ HP R TT HU EP HT KK
  go_wp2_with (first | (refine wpList_load_row rfl 46 (.tmp 5) rfl q rfl 46 #[.int .i64 4, .int .i64 0, .int .i64 0, .int .i64 0, .int .i64 0, .int .i64 0, .int .i64 0, .int .i64 0, .int .i64 0, .int .i64 0, .int .i64 0, .string ⟨#[]⟩, .int .i64 0, .int .i64 0, .bool false, .int .i64 0, .string ⟨#[]⟩, .int .i64 v0, .int .i64 v1, .int .i64 v2, .int .i64 v3, .int .i64 v4, .int .i64 v5, .slice ia j ic, .bool (vf == 1), .int .i64 0, .int .i64 0] (0, 0) _ HQ2.out Try.underlying46 rfl (by kernel_rfl) ?_) | (refine wpList_store_row rfl 46 (.tmp 4) (.tmp 118) rfl p #[.int .i64 4, .int .i64 0, .int .i64 0, .int .i64 0, .int .i64 0, .int .i64 0, .int .i64 0, .int .i64 0, .int .i64 0, .int .i64 0, .int .i64 0, .string ⟨#[]⟩, .int .i64 0, .int .i64 0, .bool false, .int .i64 0, .string ⟨#[]⟩, .int .i64 v0, .int .i64 v1, .int .i64 v2, .int .i64 v3, .int .i64 v4, .int .i64 v5, .slice ia j ic, .bool (vf == 1), .int .i64 0, .int .i64 0] rfl rfl 46 #[.int .i64 0, .int .i64 0, .int .i64 0, .int .i64 0, .int .i64 0, .int .i64 0, .int .i64 0, .int .i64 0, .int .i64 0, .int .i64 0, .int .i64 0, .string ⟨#[]⟩, .int .i64 0, .int .i64 0, .bool false, .int .i64 0, .string ⟨#[]⟩, .int .i64 0, .int .i64 0, .int .i64 0, .int .i64 0, .int .i64 0, .int .i64 0, .slice .none 0 0, .bool false, .int .i64 0, .int .i64 0] HP2.out (by kernel_rfl) rfl (by simp [Value.oneCell']) ?_) | fail)
  (try simp only [Exit.inBlock, Exit.then])
  refine bodyPost_ret (results_cell_row rfl _ _ p 46 #[.int .i64 4, .int .i64 0, .int .i64 0, .int .i64 0, .int .i64 0, .int .i64 0, .int .i64 0, .int .i64 0, .int .i64 0, .int .i64 0, .int .i64 0, .string ⟨#[]⟩, .int .i64 0, .int .i64 0, .bool false, .int .i64 0, .string ⟨#[]⟩, .int .i64 v0, .int .i64 v1, .int .i64 v2, .int .i64 v3, .int .i64 v4, .int .i64 v5, .slice ia j ic, .bool (vf == 1), .int .i64 0, .int .i64 0] (0, 0) _ rfl (setRow_heap _ p _ _ _ _ HP2.out) Try.underlying46 rfl (by kernel_rfl)) rfl ?_
  have PL := (Array.getElem?_eq_some_iff.1 HP2.out).1
  have bb := below_setRow (Below.refl p w9) (Nat.le_refl p) #[.int .i64 4, .int .i64 0, .int .i64 0, .int .i64 0, .int .i64 0, .int .i64 0, .int .i64 0, .int .i64 0, .int .i64 0, .int .i64 0, .int .i64 0, .string ⟨#[]⟩, .int .i64 0, .int .i64 0, .bool false, .int .i64 0, .string ⟨#[]⟩, .int .i64 v0, .int .i64 v1, .int .i64 v2, .int .i64 v3, .int .i64 v4, .int .i64 v5, .slice ia j ic, .bool (vf == 1), .int .i64 0, .int .i64 0]
  refine FF.out j ia ic ks t8 vf _ J.out.1 J.out.2 HT8.out HKS.out HVF.out ⟨holdsK_fresh KK2.out (turn_setRow w9 p _) (fun h0 fb fo e => (G.out fb fo h0 e).2.2.2.1), NC.out.1, NC.out.2⟩ (by rw [HPH.out]; exact fun q' o h0 e => (G.out q' o h0 e).2.2.2.2) (R2.out.old bb (by omega) RP.out AP.out) ?_
  · rw [HPH.out]
    exact TT2.out.trans (turn_weak (turn_above bb) (fun k hk => Or.inr hk))
end Go.Proofs.Ythboiklcjpnhbaa
/- messages in the document: what is read of a frame; plain -/
namespace Go.Proofs.Ythboiklcjpnhbaa
open Go.RowKit
set_option linter.unusedVariables false
set_option maxRecDepth 20000
theorem Rdy.good {bs rest : List Nat} {r : RS} (h : Rdy bs rest r) : r.bad = false := by
  obtain ⟨P, _, rfl⟩ := h; rfl
theorem rdd_n4 {bs rest : List Nat} {r : RS} (v : Int) (h0 : 0 ≤ v) (h1 : v ≤ 2147483647) (h : Rdy bs (n4 v ++ rest) r) : dG bs bs.length 4 r = v ∧ Rdy bs rest (dNum bs.length 4 r) := by
  rw [dG_good h.good, dNum_good h.good]; exact rdy_n4 v h0 h1 h
theorem rdd_n1 {bs rest : List Nat} {r : RS} (v : Int) (h0 : 0 ≤ v) (h1 : v ≤ 255) (h : Rdy bs (n1 v ++ rest) r) : dG bs bs.length 1 r = v ∧ Rdy bs rest (dNum bs.length 1 r) := by
  rw [dG_good h.good, dNum_good h.good]; exact rdy_n1 v h0 h1 h
theorem rdd_text {bs rest : List Nat} {r : RS} (t : Tx) (ht : t.size ≤ 65535) (h : Rdy bs (tB t ++ rest) r) : dTx bs bs.length r = t ∧ Rdy bs rest (dTe bs bs.length r) := by
  rw [dTx_good h.good, dTe_good h.good]; exact rdy_text t ht h
theorem rdd_flag {bs rest : List Nat} {r : RS} (f : Bool) (h : Rdy bs (fB f ++ rest) r) : (dG bs bs.length 1 r == 1) = f ∧ Rdy bs rest (dNum bs.length 1 r) := by
  rw [dG_good h.good, dNum_good h.good]; exact rdy_flag f h
theorem rdd_item {bs rest : List Nat} {r : RS} (k : KV) (h0 : 0 ≤ k.1) (h1 : k.1 ≤ 255) (hs : k.2.size ≤ 65535) (h : Rdy bs (itB k ++ rest) r) : dItem bs bs.length r = k ∧ Rdy bs rest (dIte bs bs.length r) := by
  unfold itB at h
  rw [List.append_assoc] at h
  obtain ⟨e1, h2⟩ := rdd_n1 k.1 h0 h1 h
  obtain ⟨e2, h3⟩ := rdd_text k.2 hs h2
  exact ⟨by unfold dItem; rw [e1, e2], h3⟩
theorem rdd_items {bs rest : List Nat} (ks : List KV) (r : RS) (hk : ∀ k ∈ ks, 0 ≤ k.1 ∧ k.1 ≤ 255 ∧ k.2.size ≤ 65535) (h : Rdy bs (itsB ks ++ rest) r) : ∀ j, j ≤ ks.length → dIl bs bs.length j r = ks.take j ∧ Rdy bs (itsB (ks.drop j) ++ rest) (dIs bs bs.length j r)
  | 0, _ => ⟨by simp [dIl], by simpa [dIs] using h⟩
  | j + 1, hj => by
    obtain ⟨e1, h2⟩ := rdd_items ks r hk h j (by omega)
    rw [List.drop_eq_getElem_cons (by omega)] at h2
    have hm := hk ks[j] (List.getElem_mem (by omega))
    unfold itsB at h2
    rw [List.flatMap_cons, List.append_assoc] at h2
    obtain ⟨e3, h4⟩ := rdd_item ks[j] hm.1 hm.2.1 hm.2.2 h2
    refine ⟨?_, h4⟩
    show dIl bs bs.length j r ++ [dItem bs bs.length (dIs bs bs.length j r)] = _
    rw [e1, e3, List.take_succ_eq_append_getElem (by omega)]
/-- where the fields begin; the kind -/
def ds3 : RS := ⟨3, false⟩
def kdD (bs : List Nat) : Int := ((bs.getD 2 0 : Nat) : Int)
/-- what the document reads of bytes, and where it ends -/
def GotD (bs : List Nat) (n : Nat) (M : MsgV) (s : RS) : Prop :=
  if kdD bs = 1 then M = .hello (dG bs n 4 ds3) (dG bs n 4 (dNum n 4 ds3)) ∧ s = dNum n 4 (dNum n 4 ds3)
  else if kdD bs = 2 then M = .grant (dG bs n 4 ds3) (dG bs n 4 (dNum n 4 ds3)) (dG bs n 4 (dNum n 4 (dNum n 4 ds3))) ∧ s = dNum n 4 (dNum n 4 (dNum n 4 ds3))
  else if kdD bs = 3 then M = .ask (dAsk bs n ds3) ∧ s = dAskS bs n ds3
  else if kdD bs = 4 then ∃ (ia : Option Addr) (m j ic : Nat), dMx bs n ds3 = (m : Int) ∧ j ≤ m ∧ (j = m ∨ (dIs bs n j (dNum n 1 (dRx n ds3))).bad = true) ∧ M = .reply (dRep bs n ds3 ia j ic) ∧ s = dRepS bs n ds3 j
  else if kdD bs = 5 then M = .stop (dG bs n 4 ds3) (dG bs n 4 (dNum n 4 ds3)) ∧ s = dNum n 4 (dNum n 4 ds3)
  else M = .none ∧ s = ds3
theorem dgot_same (M M' : MsgV) (s : RS) (bs : List Nat) (hf : frameM M = bs) (hm : mayM M = true) (hh : ∀ x, M = .reply x → x.items.length = x.n) (h : GotD bs bs.length M' s) : s.bad = false ∧ SameM M M' := by
  have hf2 := hf
  unfold frameM at hf2
  rw [frameB_eq] at hf2
  obtain ⟨tl, htl⟩ : ∃ t, Cod.bytesOf (Crc.sum ((Cod.bytesOf (7 + (bodyM M).length) 2 ++ Cod.bytesOf (kindM M) 1) ++ bodyM M)) 4 = t := ⟨_, rfl⟩
  rw [htl] at hf2
  obtain ⟨hd, hhd⟩ : ∃ t, Cod.bytesOf (7 + (bodyM M).length) 2 = t := ⟨_, rfl⟩
  rw [hhd] at hf2
  have l2 : hd.length = 2 := by rw [← hhd]; exact Cod.bytesOf_length _ _
  have l3 : (hd ++ Cod.bytesOf (kindM M) 1).length = 3 := by rw [List.length_append, l2, Cod.bytesOf_length]
  have ek : kdD bs = (kindM M : Int) := by
    unfold kdD
    rw [← hf2, List.append_assoc, List.getD_eq_getElem?_getD, List.getElem?_append_right (by omega), l2]
    have : kindM M < 256 := by cases M <;> simp [kindM]
    obtain ⟨z, hz⟩ : ∃ z, Cod.bytesOf (kindM M) 1 = z := ⟨_, rfl⟩
    have h1 := Cod.numOf_bytesOf (kindM M) 1
    have h2 := Cod.bytesOf_length (kindM M) 1
    rw [hz] at h1 h2 ⊢
    obtain ⟨b, rfl⟩ := List.length_eq_one_iff.1 h2
    simp [Cod.numOf] at h1 ⊢
    omega
  have r1 : Rdy bs (bodyM M ++ tl) ds3 := ⟨hd ++ Cod.bytesOf (kindM M) 1, by rw [← hf2]; simp only [List.append_assoc], by rw [l3]; rfl⟩
  clear hf hf2 htl hhd l2 l3
  unfold GotD at h
  rw [ek] at h
  cases M with
  | hello a b =>
    rw [show mayM (.hello a b) = mayHello a b from rfl] at hm
    unfold mayHello at hm
    simp only [Bool.and_eq_true] at hm
    have h1 := inR_bd hm.1; have h2 := inR_bd hm.2
    rw [if_pos (by simp [kindM])] at h
    have r1 : Rdy bs (n4 a ++ (n4 b ++ tl)) ds3 := by rw [← ns2]; exact r1
    obtain ⟨e1, r2⟩ := rdd_n4 a (by omega) (by omega) r1
    obtain ⟨e2, r3⟩ := rdd_n4 b (by omega) (by omega) r2
    rw [e1, e2] at h
    obtain ⟨rfl, rfl⟩ := h
    exact ⟨r3.good, rfl, rfl⟩
  | grant a b c =>
    rw [show mayM (.grant a b c) = mayGrant a b c from rfl] at hm
    unfold mayGrant at hm
    simp only [Bool.and_eq_true] at hm
    have h1 := inR_bd hm.1.1; have h2 := inR_bd hm.1.2; have h3 := inR_bd hm.2
    rw [if_neg (by simp [kindM]), if_pos (by simp [kindM])] at h
    have r1 : Rdy bs (n4 a ++ (n4 b ++ (n4 c ++ tl))) ds3 := by
      have e : bodyM (.grant a b c) ++ tl = n4 a ++ (n4 b ++ (n4 c ++ tl)) := by simp [bodyM, nsB]
      rw [← e]; exact r1
    obtain ⟨e1, r2⟩ := rdd_n4 a (by omega) (by omega) r1
    obtain ⟨e2, r3⟩ := rdd_n4 b (by omega) (by omega) r2
    obtain ⟨e3, r4⟩ := rdd_n4 c (by omega) (by omega) r3
    rw [e1, e2, e3] at h
    obtain ⟨rfl, rfl⟩ := h
    exact ⟨r4.good, rfl, rfl, rfl⟩
  | ask x =>
    rw [show mayM (.ask x) = mayAsk x from rfl] at hm
    unfold mayAsk at hm
    simp only [Bool.and_eq_true, decide_eq_true_eq] at hm
    obtain ⟨⟨⟨⟨⟨⟨⟨⟨b0, b1⟩, b2⟩, b3⟩, b4⟩, b5⟩, b6⟩, b7⟩, b8⟩ := hm
    have c0 := inR_bd b0; have c1 := inR_bd b1; have c2 := inR_bd b2; have c3 := inR_bd b3; have c4 := inR_bd b4; have c6 := inR_bd b6; have c7 := inR_bd b7
    have c5 := size_4 x.text b5.1
    have c8 := mayAfter_bd b8
    simp only at c8
    rw [if_neg (by simp [kindM]), if_neg (by simp [kindM]), if_pos (by simp [kindM])] at h
    have r1 : Rdy bs (n4 x.slot ++ (n4 x.query ++ (n4 x.shard ++ (n4 x.seq ++ (n4 x.epoch ++ (tB x.text ++ (n1 x.k ++ (n1 x.batch ++ (fB x.first ++ (n1 x.ad ++ (tB x.aw ++ tl))))))))))) ds3 := by
      have e : bodyM (.ask x) ++ tl = n4 x.slot ++ (n4 x.query ++ (n4 x.shard ++ (n4 x.seq ++ (n4 x.epoch ++ (tB x.text ++ (n1 x.k ++ (n1 x.batch ++ (fB x.first ++ (n1 x.ad ++ (tB x.aw ++ tl)))))))))) := by simp [bodyM, askB, nsB, itB]
      rw [← e]; exact r1
    obtain ⟨e0, r2⟩ := rdd_n4 x.slot (by omega) (by omega) r1
    obtain ⟨e1, r3⟩ := rdd_n4 x.query (by omega) (by omega) r2
    obtain ⟨e2, r4⟩ := rdd_n4 x.shard (by omega) (by omega) r3
    obtain ⟨e3, r5⟩ := rdd_n4 x.seq (by omega) (by omega) r4
    obtain ⟨e4, r6⟩ := rdd_n4 x.epoch (by omega) (by omega) r5
    obtain ⟨e5, r7⟩ := rdd_text x.text (by omega) r6
    obtain ⟨e6, r8⟩ := rdd_n1 x.k (by omega) (by omega) r7
    obtain ⟨e7, r9⟩ := rdd_n1 x.batch (by omega) (by omega) r8
    obtain ⟨e8, r10⟩ := rdd_flag x.first r9
    obtain ⟨e9, r11⟩ := rdd_n1 x.ad (by omega) (by omega) r10
    obtain ⟨e10, r12⟩ := rdd_text x.aw (by omega) r11
    obtain ⟨rfl, rfl⟩ := h
    refine ⟨r12.good, ?_⟩
    show x = dAsk bs bs.length ds3
    simp only [dAsk, e0, e1, e2, e3, e4, e5, e6, e7, e8, e9, e10]
  | reply x =>
    have hx := hh x rfl
    rw [show mayM (.reply x) = mayReply x from rfl] at hm
    unfold mayReply at hm
    simp only [Bool.and_eq_true] at hm
    obtain ⟨⟨⟨⟨⟨⟨b0, b1⟩, b2⟩, b3⟩, b4⟩, b5⟩, b6⟩ := hm
    have c0 := inR_bd b0; have c1 := inR_bd b1; have c2 := inR_bd b2; have c3 := inR_bd b3; have c4 := inR_bd b4; have c5 := inR_bd b5
    obtain ⟨c6, c7⟩ := mayItems_bd b6
    rw [if_neg (by simp [kindM]), if_neg (by simp [kindM]), if_neg (by simp [kindM]), if_pos (by simp [kindM])] at h
    have r1 : Rdy bs (n4 x.slot ++ (n4 x.query ++ (n4 x.shard ++ (n4 x.seq ++ (n4 x.worker ++ (n4 x.epoch ++ (n1 (x.items.length : Int) ++ (itsB x.items ++ (fB x.fin ++ tl))))))))) ds3 := by
      have e : bodyM (.reply x) ++ tl = n4 x.slot ++ (n4 x.query ++ (n4 x.shard ++ (n4 x.seq ++ (n4 x.worker ++ (n4 x.epoch ++ (n1 (x.items.length : Int) ++ (itsB x.items ++ (fB x.fin ++ tl)))))))) := by simp [bodyM, repB, nsB]
      rw [← e]; exact r1
    obtain ⟨e0, r2⟩ := rdd_n4 x.slot (by omega) (by omega) r1
    obtain ⟨e1, r3⟩ := rdd_n4 x.query (by omega) (by omega) r2
    obtain ⟨e2, r4⟩ := rdd_n4 x.shard (by omega) (by omega) r3
    obtain ⟨e3, r5⟩ := rdd_n4 x.seq (by omega) (by omega) r4
    obtain ⟨e4, r6⟩ := rdd_n4 x.worker (by omega) (by omega) r5
    obtain ⟨e5, r7⟩ := rdd_n4 x.epoch (by omega) (by omega) r6
    obtain ⟨e6, r8⟩ := rdd_n1 (x.items.length : Int) (by omega) (by omega) r7
    have RI := rdd_items x.items _ (fun k hk => by have := c7 k hk; omega) r8
    obtain ⟨ia, m, j, ic, hmx, hj, hjb, rfl, rfl⟩ := h
    have e6' : dMx bs bs.length ds3 = (x.items.length : Int) := e6
    rw [e6'] at hmx
    obtain rfl : m = x.items.length := by omega
    obtain rfl : j = x.items.length := by
      rcases hjb with h | h
      · exact h
      · have h2 : (dIs bs bs.length j (dNum bs.length 1 (dRx bs.length ds3))).bad = false := (RI j hj).2.good
        rw [h2] at h; cases h
    obtain ⟨e7, r9⟩ := RI x.items.length (Nat.le_refl _)
    rw [List.take_length] at e7
    rw [List.drop_length] at r9
    obtain ⟨e8, r10⟩ := rdd_flag x.fin (by simpa [itsB] using r9)
    refine ⟨r10.good, ?_⟩
    refine ⟨e0.symm, e1.symm, e2.symm, e3.symm, e4.symm, e5.symm, e7.symm, hx.symm, e8.symm⟩
  | stop a b =>
    rw [show mayM (.stop a b) = mayStop a b from rfl] at hm
    unfold mayStop at hm
    simp only [Bool.and_eq_true] at hm
    have h1 := inR_bd hm.1; have h2 := inR_bd hm.2
    rw [if_neg (by simp [kindM]), if_neg (by simp [kindM]), if_neg (by simp [kindM]), if_neg (by simp [kindM]), if_pos (by simp [kindM])] at h
    have r1 : Rdy bs (n4 a ++ (n4 b ++ tl)) ds3 := by rw [← ns2]; exact r1
    obtain ⟨e1, r2⟩ := rdd_n4 a (by omega) (by omega) r1
    obtain ⟨e2, r3⟩ := rdd_n4 b (by omega) (by omega) r2
    rw [e1, e2] at h
    obtain ⟨rfl, rfl⟩ := h
    exact ⟨r3.good, rfl, rfl⟩
  | num k => cases hm
  | none => cases hm
theorem dAskText (bs : List Nat) (n : Nat) (s : RS) (hl : bs.length ≤ 1100) : (dTx bs n s).size ≤ 1100 := by
  unfold dTx
  split
  · rw [strN_size]
    unfold textN
    rw [List.length_drop, List.length_take]
    omega
  · show 0 ≤ 1100; omega
theorem dIl_small (bs : List Nat) (n : Nat) (s : RS) (hl : bs.length ≤ 1100) : ∀ k, ∀ x ∈ dIl bs n k s, x.2.size ≤ 1100
  | 0, x, h => by cases h
  | k + 1, x, h => by
    rcases List.mem_append.1 h with h | h
    · exact dIl_small bs n s hl k x h
    · simp at h; subst h; exact dAskText bs n _ hl
end Go.Proofs.Ythboiklcjpnhbaa
