/- texts joined -/
import Derived.Test.YthboiklcjpnhbaaPkC
import Derived.Test.YthboiklcjpnhbaaPkB
import Derived.Laws.BitsAllLaws
import Derived.Test.YthboiklcjpnhbaaChecked
import Derived.WalkLawsBesides
import Derived.WalkSpells
import Derived.Outline
import Derived.Lib.Hide
import Derived.Carry
import Derived.Deep.QuietTactic
import Derived.BigQuiet
import Derived.Deep.DeepCutAuto
import Derived.Deep.RegionLaw
import Derived.Deep.RegionHeld3
import Derived.Deep.AppendLies
import Derived.Laws.ResultCell
import Derived.Lib.SliceRun
/- msg: two of the messages of one argument (by gen/mc5.py) -/
namespace Go.Proofs.Ythboiklcjpnhbaa
open Go.RowKit
set_option linter.unusedVariables false
set_option maxRecDepth 20000
/-- of one kind: the same, or two Asks -/
def Kin (M1 M2 : MsgV) : Prop := kindM M1 = kindM M2 → (SameM M1 M2 ∨ ∃ x z, M1 = .ask x ∧ M2 = .ask z)
theorem sameM_kin (M1 M2 : MsgV) (w : World) (hk : Kin M1 M2) (k1 : kindM M1 ≠ 0) (k2 : kindM M2 ≠ 0) (h1 : heldM w M1) (h2 : heldM w M2) (s1 : smallM M1) :
    ∃ z : Bool, (z = true ↔ SameM M1 M2) ∧ Calls Try.prog 27 #[valM M1, valM M2] w fun e w' => e = .returned (.bool z) ∧ Below w.heap.size w w' := by
  match M1, M2 with
  | .hello a b, .hello d e =>
    have e := (hk rfl).resolve_right (by rintro ⟨_, _, h, _⟩; cases h)
    exact ⟨true, by simp [e], sameM_yes _ _ w e h1 h2 s1⟩
  | .hello a b, .grant d e f =>
    exact ⟨false, by simp [SameM], otherHelloM a b (valM (.grant d e f)) w (fun w => taGrantHello d e f w)⟩
  | .hello a b, .ask x2 =>
    exact ⟨false, by simp [SameM], otherHelloM a b (valM (.ask x2)) w (fun w => taAskHello x2 w)⟩
  | .hello a b, .reply y2 =>
    exact ⟨false, by simp [SameM], otherHelloM a b (valM (.reply y2)) w (fun w => taReplyHello y2 w)⟩
  | .hello a b, .stop d e =>
    exact ⟨false, by simp [SameM], otherHelloM a b (valM (.stop d e)) w (fun w => taStopHello d e w)⟩
  | .grant a b c, .hello d e =>
    exact ⟨false, by simp [SameM], otherGrantM a b c (valM (.hello d e)) w (fun w => taHelloGrant d e w)⟩
  | .grant a b c, .grant d e f =>
    have e := (hk rfl).resolve_right (by rintro ⟨_, _, h, _⟩; cases h)
    exact ⟨true, by simp [e], sameM_yes _ _ w e h1 h2 s1⟩
  | .grant a b c, .ask x2 =>
    exact ⟨false, by simp [SameM], otherGrantM a b c (valM (.ask x2)) w (fun w => taAskGrant x2 w)⟩
  | .grant a b c, .reply y2 =>
    exact ⟨false, by simp [SameM], otherGrantM a b c (valM (.reply y2)) w (fun w => taReplyGrant y2 w)⟩
  | .grant a b c, .stop d e =>
    exact ⟨false, by simp [SameM], otherGrantM a b c (valM (.stop d e)) w (fun w => taStopGrant d e w)⟩
  | .ask x, .hello d e =>
    exact ⟨false, by simp [SameM], otherAskM x (valM (.hello d e)) w (fun w => taHelloAsk d e w)⟩
  | .ask x, .grant d e f =>
    exact ⟨false, by simp [SameM], otherAskM x (valM (.grant d e f)) w (fun w => taGrantAsk d e f w)⟩
  | .ask x, .ask x2 =>
    by_cases e : x = x2
    · subst e; exact ⟨true, by simp [SameM], sameM_yes (.ask x) (.ask x) w rfl h1 h2 s1⟩
    · exact ⟨false, by simp [SameM, e], unlikeAskM x x2 e w⟩
  | .ask x, .reply y2 =>
    exact ⟨false, by simp [SameM], otherAskM x (valM (.reply y2)) w (fun w => taReplyAsk y2 w)⟩
  | .ask x, .stop d e =>
    exact ⟨false, by simp [SameM], otherAskM x (valM (.stop d e)) w (fun w => taStopAsk d e w)⟩
  | .reply y, .hello d e =>
    exact ⟨false, by simp [SameM], otherReplyM y (valM (.hello d e)) w (fun w => taHelloReply d e w)⟩
  | .reply y, .grant d e f =>
    exact ⟨false, by simp [SameM], otherReplyM y (valM (.grant d e f)) w (fun w => taGrantReply d e f w)⟩
  | .reply y, .ask x2 =>
    exact ⟨false, by simp [SameM], otherReplyM y (valM (.ask x2)) w (fun w => taAskReply x2 w)⟩
  | .reply y, .reply y2 =>
    have e := (hk rfl).resolve_right (by rintro ⟨_, _, h, _⟩; cases h)
    exact ⟨true, by simp [e], sameM_yes _ _ w e h1 h2 s1⟩
  | .reply y, .stop d e =>
    exact ⟨false, by simp [SameM], otherReplyM y (valM (.stop d e)) w (fun w => taStopReply d e w)⟩
  | .stop a b, .hello d e =>
    exact ⟨false, by simp [SameM], otherStopM a b (valM (.hello d e)) w (fun w => taHelloStop d e w)⟩
  | .stop a b, .grant d e f =>
    exact ⟨false, by simp [SameM], otherStopM a b (valM (.grant d e f)) w (fun w => taGrantStop d e f w)⟩
  | .stop a b, .ask x2 =>
    exact ⟨false, by simp [SameM], otherStopM a b (valM (.ask x2)) w (fun w => taAskStop x2 w)⟩
  | .stop a b, .reply y2 =>
    exact ⟨false, by simp [SameM], otherStopM a b (valM (.reply y2)) w (fun w => taReplyStop y2 w)⟩
  | .stop a b, .stop d e =>
    have e := (hk rfl).resolve_right (by rintro ⟨_, _, h, _⟩; cases h)
    exact ⟨true, by simp [e], sameM_yes _ _ w e h1 h2 s1⟩
  | .num k, _ => exact absurd rfl k1
  | .none, _ => exact absurd rfl k1
  | .hello _ _, .num k => exact absurd rfl k2
  | .grant _ _ _, .num k => exact absurd rfl k2
  | .ask _, .num k => exact absurd rfl k2
  | .reply _, .num k => exact absurd rfl k2
  | .stop _ _, .num k => exact absurd rfl k2
  | .hello _ _, .none => exact absurd rfl k2
  | .grant _ _ _, .none => exact absurd rfl k2
  | .ask _, .none => exact absurd rfl k2
  | .reply _, .none => exact absurd rfl k2
  | .stop _ _, .none => exact absurd rfl k2
theorem got_kind (M : MsgV) (I : List Nat) (hI : I = Cod.bytesOf (kindM M) 1 ++ bodyM M) : kdR I I.length = (kindM M : Int) := by
  have p1 : (256 : Nat) ^ 1 = 256 := by decide
  have r0 : Rdy I (Cod.bytesOf (kindM M) 1 ++ bodyM M) rs0 := ⟨[], by simpa using hI, rfl⟩
  exact (rdy_num (kindM M) 1 (by cases M <;> simp [kindM]) r0).1
theorem ask_inj (x z : AskP) (I : List Nat) (h1 : I = Cod.bytesOf 3 1 ++ bodyM (.ask x)) (h2 : I = Cod.bytesOf 3 1 ++ bodyM (.ask z)) (m1 : mayM (.ask x) = true) (m2 : mayM (.ask z) = true) : x = z := by
  have hk := got_kind (.ask x) I h1
  have hg : GotM I I.length (.ask (gAsk I I.length (rs1 I.length))) := by
    unfold GotM
    rw [hk, if_neg (by simp [kindM]), if_neg (by simp [kindM]), if_pos (by simp [kindM])]
  have e1 : x = _ := got_same (.ask x) _ I h1 m1 (by intro q h; cases h) hg
  have e2 : z = _ := got_same (.ask z) _ I h2 m2 (by intro q h; cases h) hg
  rw [e1, e2]
theorem frames_iff (M1 M2 : MsgV) (hk : Kin M1 M2) (m1 : mayM M1 = true) (m2 : mayM M2 = true) : frameM M1 = frameM M2 ↔ SameM M1 M2 := by
  constructor
  · intro h
    have i1 := inner_frame (kindM M1) (bodyM M1) _ rfl
    have i2 := inner_frame (kindM M2) (bodyM M2) _ rfl
    have hl : (bodyM M1).length + 7 = (bodyM M2).length + 7 := by rw [← frameM_len, ← frameM_len, h]
    rw [show frameB (kindM M1) (bodyM M1) = frameM M1 from rfl, h, hl] at i1
    rw [show frameB (kindM M2) (bodyM M2) = frameM M2 from rfl] at i2
    have e := got_kind M1 _ i1
    have e2 := got_kind M2 _ i2
    have ek : kindM M1 = kindM M2 := by rw [e] at e2; exact Int.ofNat.inj e2
    rcases hk ek with h | ⟨x, z, rfl, rfl⟩
    · exact h
    · exact ask_inj x z _ i1 i2 m1 m2
  · intro h; exact h.frame.symm
theorem low5 (k : Int) : lowV (lowV k 5) 6 = lowV k 5 := by
  have h := low_bd k 5 (by omega)
  unfold lowV at *
  rw [u64_in _ h.1 (by omega)]
  exact Int.emod_eq_of_lt h.1 (by omega)
theorem pick_kin (k k2 h1 h2 g1 g2 g3 : Int) (x z : AskP) (y : RepP) (s1 s2 : Int) : Kin (oneM (lowV k 5) h1 h2 g1 g2 g3 x y s1 s2) (oneM (lowV k2 5) h1 h2 g1 g2 g3 z y s1 s2) := by
  have b1 := low_bd k 5 (by omega)
  have b2 := low_bd k2 5 (by omega)
  unfold oneM
  rw [low5, low5]
  obtain ⟨p, hp⟩ : ∃ p, lowV k 5 = p := ⟨_, rfl⟩
  obtain ⟨q, hq⟩ : ∃ q, lowV k2 5 = q := ⟨_, rfl⟩
  rw [hp] at b1 ⊢; rw [hq] at b2 ⊢
  have c1 : p = 0 ∨ p = 1 ∨ p = 2 ∨ p = 3 ∨ p = 4 := by omega
  have c2 : q = 0 ∨ q = 1 ∨ q = 2 ∨ q = 3 ∨ q = 4 := by omega
  intro h
  rcases c1 with rfl | rfl | rfl | rfl | rfl <;> rcases c2 with rfl | rfl | rfl | rfl | rfl <;> first
    | (exfalso; revert h; simp [kindM]; done)
    | exact Or.inr ⟨x, z, rfl, rfl⟩
    | (left; simp [SameM]; done)
theorem pick_some (k h1 h2 g1 g2 g3 : Int) (x : AskP) (y : RepP) (s1 s2 : Int) : kindM (oneM (lowV k 5) h1 h2 g1 g2 g3 x y s1 s2) ≠ 0 := by
  have b1 := low_bd k 5 (by omega)
  unfold oneM
  rw [low5]
  obtain ⟨p, hp⟩ : ∃ p, lowV k 5 = p := ⟨_, rfl⟩
  rw [hp] at b1 ⊢
  have c1 : p = 0 ∨ p = 1 ∨ p = 2 ∨ p = 3 ∨ p = 4 := by omega
  rcases c1 with rfl | rfl | rfl | rfl | rfl <;> simp [kindM]
end Go.Proofs.Ythboiklcjpnhbaa
/- one byte turned, plain (split from N9) -/
namespace Go.Proofs.Ythboiklcjpnhbaa
open Go.RowKit
set_option linter.unusedVariables false
set_option maxRecDepth 20000
namespace Dm
def k (n : Nat) (at_ : Int) : Nat := (IntKind.u64.wrap at_ % (n : Int)).toNat
def m (x : Int) : Nat := (1 + IntKind.u64.wrap x % 255).toNat
def turned (bs : List Nat) (at_ x : Int) : List Nat := bs.set (k bs.length at_) (bs.getD (k bs.length at_) 0 ^^^ m x)
theorem u64_bd (d : Int) : 0 ≤ IntKind.u64.wrap d ∧ IntKind.u64.wrap d < 18446744073709551616 := by
  simp only [IntKind.wrap, IntKind.signed, IntKind.bits]; simp; omega
theorem k_eq (n : Nat) (at_ : Int) (h : 0 < n) : IntKind.u64.wrap at_ % (n : Int) = (k n at_ : Int) := by
  unfold k
  rw [Int.toNat_of_nonneg (Int.emod_nonneg _ (by omega))]
theorem k_lt (n : Nat) (at_ : Int) (h : 0 < n) : k n at_ < n := by
  have h1 := k_eq n at_ h
  have h2 : IntKind.u64.wrap at_ % (n : Int) < (n : Int) := Int.emod_lt_of_pos _ (by omega)
  omega
theorem m_eq (x : Int) : 1 + IntKind.u64.wrap x % 255 = (m x : Int) := by
  unfold m
  have h2 : 0 ≤ IntKind.u64.wrap x % 255 := Int.emod_nonneg _ (by omega)
  rw [Int.toNat_of_nonneg (by omega)]
theorem m_bd (x : Int) : 1 ≤ m x ∧ m x ≤ 255 := by
  have h1 := m_eq x
  have h2 : 0 ≤ IntKind.u64.wrap x % 255 := Int.emod_nonneg _ (by omega)
  have h3 : IntKind.u64.wrap x % 255 < 255 := Int.emod_lt_of_pos _ (by omega)
  omega
theorem turned_len (bs : List Nat) (at_ x : Int) : (turned bs at_ x).length = bs.length := by simp [turned]
end Dm
theorem bytesV_set (bs : List Nat) (k v : Nat) : (bytesV bs).set k (.int .u8 (v : Int)) = bytesV (bs.set k v) := by simp [bytesV, List.map_set]
end Go.Proofs.Ythboiklcjpnhbaa
/- sealed bytes, turned (plain; split from Pq5) -/
namespace Go.Proofs.Ythboiklcjpnhbaa
open Go.RowKit
set_option linter.unusedVariables false
set_option maxRecDepth 20000
theorem sum_one {P S : List Nat} {b c : Nat} (hP : ∀ x ∈ P, x < 256) (hS : ∀ x ∈ S, x < 256) (hb : b < 256) (hc : c < 256) (hne : b ≠ c) : Crc.sum (P ++ b :: S) ≠ Crc.sum (P ++ c :: S) := by
  intro e
  have hR := Crc.reg_lt P hP (4294967295 - 0) (by decide)
  unfold Crc.sum Crc.add at e
  have cons : ∀ (r x : Nat) (l : List Nat), Crc.reg r (x :: l) = Crc.reg (Crc.byteStep r x) l := fun r x l => rfl
  rw [Crc.reg_append, Crc.reg_append, cons, cons] at e
  have h1 := Crc.byteStep_lt hR hb
  have h2 := Crc.byteStep_lt hR hc
  have h3 := Crc.reg_lt S hS _ h1
  have h4 := Crc.reg_lt S hS _ h2
  have h5 := Crc.reg_inj S hS h1 h2 (by omega)
  have h6 := Crc.stN_inj (k := 8) (Crc.xor_lt32 hR (by omega)) (Crc.xor_lt32 hR (by omega)) h5
  have h7 : ∀ r x : Nat, r ^^^ (r ^^^ x) = x := fun r x => by rw [← Nat.xor_assoc, Nat.xor_self, Nat.zero_xor]
  have h8 := congrArg (fun z => Crc.reg (4294967295 - 0) P ^^^ z) h6
  simp only [h7] at h8
  exact hne h8
theorem split1 {l : List Nat} {k : Nat} (h : k < l.length) (v : Nat) : l = l.take k ++ l.getD k 0 :: l.drop (k + 1) ∧ l.set k v = l.take k ++ v :: l.drop (k + 1) := by
  refine ⟨?_, List.set_eq_take_append_cons_drop.trans (if_pos h)⟩
  conv => lhs; rw [← List.take_append_drop k l]
  rw [List.drop_eq_getElem_cons h, List.getD_eq_getElem?_getD, List.getElem?_eq_getElem h]; rfl
theorem num4_inj {l m : List Nat} (h1 : l.length = 4) (h2 : m.length = 4) (hl : ∀ x ∈ l, x < 256) (hm : ∀ x ∈ m, x < 256) (h : Cod.numOf l = Cod.numOf m) : l = m := by
  match l, m, h1, h2 with
  | [a, b, c, d], [a', b', c', d'], _, _ =>
    simp only [Cod.numOf, List.foldl_cons, List.foldl_nil] at h
    have a1 := hl a (by simp); have b1 := hl b (by simp); have c1 := hl c (by simp); have d1 := hl d (by simp)
    have a2 := hm a' (by simp); have b2 := hm b' (by simp); have c2 := hm c' (by simp); have d2 := hm d' (by simp)
    obtain rfl : a = a' := by omega
    obtain rfl : b = b' := by omega
    obtain rfl : c = c' := by omega
    obtain rfl : d = d' := by omega
    rfl
/-- sealed bytes of which one is another one are not well sealed -/
theorem sealB_turned {bs : List Nat} (hb : ∀ x ∈ bs, x < 256) (k v : Nat) (hk : k < (sealB bs).length) (hv : v < 256) (hne : v ≠ (sealB bs).getD k 0) : openB ((sealB bs).set k v) = false := by
  have hl := sealB_len bs
  have hlt := sealB_lt bs hb
  have c4 := Cod.bytesOf_length (Crc.sum bs) 4
  have cl := Cod.bytesOf_lt (Crc.sum bs) 4
  have cn : Cod.numOf (Cod.bytesOf (Crc.sum bs) 4) = Crc.sum bs := by
    rw [Cod.numOf_bytesOf]; exact Nat.mod_eq_of_lt (sum_lt9 _)
  unfold openB
  rw [List.length_set, hl, Nat.add_sub_cancel]
  rw [Bool.and_eq_false_iff]
  right
  refine decide_eq_false fun e => ?_
  unfold numN at e
  by_cases h1 : k < bs.length
  · have e1 : (sealB bs).set k v = bs.set k v ++ Cod.bytesOf (Crc.sum bs) 4 := by
      unfold sealB; exact List.set_append_left _ _ h1
    have ls : (bs.set k v).length = bs.length := List.length_set
    rw [e1, List.drop_left' ls, List.take_left' ls, List.take_of_length_le (by omega), cn] at e
    have g : (sealB bs).getD k 0 = bs.getD k 0 := by
      unfold sealB; rw [List.getD_eq_getElem?_getD, List.getElem?_append_left h1, ← List.getD_eq_getElem?_getD]
    obtain ⟨s1, s2⟩ := split1 h1 v
    rw [s2] at e
    conv at e => lhs; rw [s1]
    refine sum_one (fun x hx => hb x (List.mem_of_mem_take hx)) (fun x hx => hb x (List.mem_of_mem_drop hx)) ?_ hv ?_ e
    · rw [List.getD_eq_getElem?_getD, List.getElem?_eq_getElem h1]; exact hb _ (List.getElem_mem _)
    · rw [← g]; exact fun h => hne h.symm
  · have e1 : (sealB bs).set k v = bs ++ (Cod.bytesOf (Crc.sum bs) 4).set (k - bs.length) v := by
      unfold sealB; exact List.set_append_right _ _ (by omega)
    have k4 : k - bs.length < 4 := by omega
    rw [e1, List.drop_left' rfl, List.take_left' rfl, List.take_of_length_le (by rw [List.length_set]; omega)] at e
    have h2 := num4_inj (l := (Cod.bytesOf (Crc.sum bs) 4).set (k - bs.length) v) (m := Cod.bytesOf (Crc.sum bs) 4) (by rw [List.length_set, c4]) c4 (fun x hx => by
      rcases List.mem_or_eq_of_mem_set hx with hx | rfl
      · exact cl x hx
      · exact hv) cl (by rw [e, cn])
    have h3 := congrArg (fun l => l.getD (k - bs.length) 0) h2
    simp only [List.getD_eq_getElem?_getD] at h3
    rw [List.getElem?_set_self (by omega), Option.getD_some] at h3
    have g : (sealB bs).getD k 0 = (Cod.bytesOf (Crc.sum bs) 4)[k - bs.length]?.getD 0 := by
      unfold sealB; rw [List.getD_eq_getElem?_getD, List.getElem?_append_right (by omega)]
    exact hne (by rw [g]; exact h3)
theorem xor_other {y m : Nat} (h1 : 1 ≤ m) : y ^^^ m ≠ y := fun e => by
  have h2 : y ^^^ (y ^^^ m) = y ^^^ y := by rw [e]
  rw [← Nat.xor_assoc, Nat.xor_self, Nat.zero_xor] at h2
  omega
end Go.Proofs.Ythboiklcjpnhbaa
/- the document's Turned (split from Nr2) -/
namespace Go.Proofs.Ythboiklcjpnhbaa
open Go.RowKit
set_option linter.unusedVariables false
set_option maxRecDepth 20000
theorem u8d_info : (Try.prog.info? 5).map (fun i => (i.zero, i.size, i.bytes)) = some (some (.int .u8 0), 1, 1) := by kernel_rfl
set_option maxHeartbeats 1600000 in
theorem rturned_any (a : Option Addr) (n c : Nat) (bs : List Nat) (at_ x : Int) (w : World) (h : HoldsB w a n bs) (hnone : a = none → n = 0 ∧ c = 0) (h0 : 0 < n) (hn : n ≤ 1000000) :
    Calls Try.prog 29 #[.slice a n c, .int .i64 at_, .int .i64 x] w (RetB 5 w (Dm.turned bs at_ x)) := by
  obtain ⟨i0, hi, hz0, hz1, hz2⟩ := info_parts u8d_info
  have HVC := Lib.hid (h.values.cells (w' := w) ⟨rfl, rfl, rfl, Nat.le_refl _, fun _ _ _ => rfl⟩)
  have hbl : (bytesV bs).length = n * 1 := by rw [bytesV_length, h.len]; omega
  have hl := h.len
  have hk := Dm.k_eq n at_ h0
  have hkl := Dm.k_lt n at_ h0
  have hm := Dm.m_eq x
  have hmb := Dm.m_bd x
  have hbs := h.2
  obtain ⟨k, hkk⟩ : ∃ k, Dm.k n at_ = k := ⟨_, rfl⟩
  obtain ⟨m, hmm⟩ : ∃ m, Dm.m x = m := ⟨_, rfl⟩
  obtain ⟨y, hy⟩ : ∃ y, bs.getD k 0 = y := ⟨_, rfl⟩
  have hyb : y < 256 := by
    rw [← hy, List.getD_eq_getElem?_getD, List.getElem?_eq_getElem (by omega)]
    exact hbs _ (List.getElem_mem _)
  rw [hkk] at hk hkl
  rw [hmm] at hm hmb
  have hT : Dm.turned bs at_ x = bs.set k (y ^^^ m) := by unfold Dm.turned; rw [hl, hkk, hy, hmm]
  have HBS := Lib.hid hbs
  have TT := Lib.hid hT; have HY := Lib.hid hy; have HL := Lib.hid hl
  have z0 : ((n : Int) == 0) = false := by simp; omega
  have b1 := Dm.u64_bd at_
  have b2 := Dm.u64_bd x
  have w1 : IntKind.u64.wrap (n : Int) = (n : Int) := by simp only [IntKind.wrap, IntKind.signed, IntKind.bits]; simp; omega
  have w2 : IntKind.u64.wrap (1 + IntKind.u64.wrap x % 255) = (m : Int) := by rw [hm]; simp only [IntKind.wrap, IntKind.signed, IntKind.bits]; simp; omega
  have w3 : IntKind.u8.wrap (m : Int) = (m : Int) := by simp only [IntKind.wrap, IntKind.signed, IntKind.bits]; simp; omega
  have hx : bits BinOp.xor IntKind.u8 (y : Int) (m : Int) = ((y ^^^ m : Nat) : Int) := u8_xor_nat y m hyb (by omega)
  have w4 : IntKind.i64.wrap (k : Int) = (k : Int) := IntWalk.i64_in _ (by omega)
  have k1 : (0 : Int) ≤ (k : Int) := by omega
  have k2 : (k : Int) < (n : Int) := by omega
  have HNO := Lib.hid hnone
  clear h hnone hl hT hy hkk hmm hbs
  go_enter Try.func29, Try.ntmps29
  go_upto_region 2 with (at_builtin; refine wpList_append_any rfl (.const (.slice none 0 0)) (.tmp 9) 39 rfl w.heap.size 5 i0 _ 1 1 Try.underlying39 hi hz0 hz1 hz2 rfl (by decide) _ 0 [] rfl (World.ownsRow_nil _ _ _ _) a n c (bytesV bs) rfl HNO.out hbl HVC.out (bytesV_one _) (by unfold maxLen; omega) (by omega) (by simp) ?_; intro a3 c3 w3' ho hb hnil)
  rw [Nat.zero_add, List.nil_append] at ho
  obtain ⟨g, rfl⟩ : ∃ g, a3 = some ⟨g, 0, none⟩ := by
    obtain ⟨g, cap', hv⟩ := Joins.ownsRow_form ho (by omega)
    simp only [Value.slice.injEq] at hv
    exact ⟨g, hv.1⟩
  have O3 := Lib.hid ho; have B3 := Lib.hid hb
  obtain ⟨gb, go, hge, hc⟩ := (holdsB_of_values (owns_holds ho) HBS.out).at (by omega)
  injection hge with hge; injection hge with e1 e2; subst e1 e2
  have ck := hc k hkl
  rw [Nat.zero_add, HY.out] at ck
  clear hc
  have fk := ho.frozenAt k
  have B5 := Lib.hid (B3.out.setCell (p := ⟨g, k, none⟩) (O3.out.lt g rfl).1 (.int .u8 ((y ^^^ m : Nat) : Int)))
  have O5 := Lib.hid ((O3.out.stored k (.int .u8 ((y ^^^ m : Nat) : Int))).1)
  have hlen : (Dm.turned bs at_ x).length = n := by rw [Dm.turned_len, HL.out]
  have RR := Lib.hid (show RetB 5 w (Dm.turned bs at_ x) (.returned (.slice (some ⟨g, 0, none⟩) n c3)) (w3'.setCell ⟨g, k, none⟩ (.int .u8 ((y ^^^ m : Nat) : Int))) from
    ⟨some ⟨g, 0, none⟩, c3, by rw [hlen], by rw [hlen, TT.out, ← bytesV_set]; exact O5.out, B5.out, fun h => by cases h⟩)
  clear hlen
  go_wp2_with fail
  go_ret
  exact RR.out
end Go.Proofs.Ythboiklcjpnhbaa
