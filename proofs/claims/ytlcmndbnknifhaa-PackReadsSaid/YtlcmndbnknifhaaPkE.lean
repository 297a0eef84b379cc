/- texts joined -/
import Derived.Test.YtlcmndbnknifhaaChecked
import Derived.Test.YtlcmndbnknifhaaPkD
import Derived.Test.YtlcmndbnknifhaaPkA
import Derived.Laws.BitsAllLaws
import Derived.Test.YtlcmndbnknifhaaPkC
import Derived.WalkLawsBesides
import Derived.WalkSpells
import Derived.Outline
import Derived.Lib.Hide
import Derived.Carry
import Derived.Deep.QuietTactic
import Derived.BigQuiet
import Derived.Deep.DeepCutAuto
import Derived.Deep.RegionLaw
import Derived.Deep.RegionHeld3
import Derived.Deep.AppendLies
import Derived.Laws.ResultCell
import Derived.Lib.SliceRun
import Derived.Deep.RegionWith
import Derived.Shelf.SlSortCmp.NoneTotal
import Derived.Shelf.Slices.CompactS
import Derived.Ground.SlsfProg
import Derived.Ground.NamesProg
import Derived.Lib.OwnBridge
import Derived.Sort.OwnSorted
/- An argument that is a slice of bytes, opened. -/
namespace Go.Proofs.Ytlcmndbnknifhaa
open Go.ChangeShapes Go.WideShapes Go.ChangeAt Go.RowKit
set_option linter.unusedVariables false
set_option maxRecDepth 20000
theorem Try.cellsU8 : Try.prog.cellsOf 5 = 1 := by kernel_rfl
theorem open_bytes_arg {H : Type} {enc : TypeId × Value → H} {W : World} {base : Nat} {v : Value} {d : DataW H} {p : List MemPlace}
    (o : Value.okWide Try.prog W .any base 25 v) (h : DataW.Trod enc Try.prog W 0 (fun _ => true) true 25 v d p) :
    ∃ a n cap bs, v = .slice a n cap ∧ HoldsB W a n bs ∧ (a = none → n = 0 ∧ cap = 0) ∧ n ≤ cap ∧ cap ≤ maxLen := by
  obtain ⟨a, n, cap, zs, rfl, hh, hnil, h1, h2, hw⟩ := open_ints_arg Try.underlying25 Try.underlying5 Try.cellsU8 o h
  have hz : (zs.map Int.toNat).map (fun b : Nat => (b : Int)) = zs := by
    rw [List.map_map]
    conv => rhs; rw [← List.map_id zs]
    refine List.map_congr_left fun z hz => ?_
    have := u8_of_wf (hw z hz)
    simp; omega
  refine ⟨a, n, cap, zs.map Int.toNat, rfl, ⟨by rw [hz]; exact hh, fun b hb => ?_⟩, hnil, h1, h2⟩
  obtain ⟨z, hz, rfl⟩ := List.mem_map.1 hb
  have := u8_of_wf (hw z hz)
  omega
end Go.Proofs.Ytlcmndbnknifhaa
/- one byte turned, plain (split from N9) -/
namespace Go.Proofs.Ytlcmndbnknifhaa
open Go.RowKit
set_option linter.unusedVariables false
set_option maxRecDepth 20000
namespace Dm
def k (n : Nat) (at_ : Int) : Nat := (IntKind.u64.wrap at_ % (n : Int)).toNat
def m (x : Int) : Nat := (1 + IntKind.u64.wrap x % 255).toNat
def turned (bs : List Nat) (at_ x : Int) : List Nat := bs.set (k bs.length at_) (bs.getD (k bs.length at_) 0 ^^^ m x)
theorem u64_bd (d : Int) : 0 ≤ IntKind.u64.wrap d ∧ IntKind.u64.wrap d < 18446744073709551616 := by
  simp only [IntKind.wrap, IntKind.signed, IntKind.bits]; simp; omega
theorem k_eq (n : Nat) (at_ : Int) (h : 0 < n) : IntKind.u64.wrap at_ % (n : Int) = (k n at_ : Int) := by
  unfold k
  rw [Int.toNat_of_nonneg (Int.emod_nonneg _ (by omega))]
theorem k_lt (n : Nat) (at_ : Int) (h : 0 < n) : k n at_ < n := by
  have h1 := k_eq n at_ h
  have h2 : IntKind.u64.wrap at_ % (n : Int) < (n : Int) := Int.emod_lt_of_pos _ (by omega)
  omega
theorem m_eq (x : Int) : 1 + IntKind.u64.wrap x % 255 = (m x : Int) := by
  unfold m
  have h2 : 0 ≤ IntKind.u64.wrap x % 255 := Int.emod_nonneg _ (by omega)
  rw [Int.toNat_of_nonneg (by omega)]
theorem m_bd (x : Int) : 1 ≤ m x ∧ m x ≤ 255 := by
  have h1 := m_eq x
  have h2 : 0 ≤ IntKind.u64.wrap x % 255 := Int.emod_nonneg _ (by omega)
  have h3 : IntKind.u64.wrap x % 255 < 255 := Int.emod_lt_of_pos _ (by omega)
  omega
theorem turned_len (bs : List Nat) (at_ x : Int) : (turned bs at_ x).length = bs.length := by simp [turned]
end Dm
theorem bytesV_set (bs : List Nat) (k v : Nat) : (bytesV bs).set k (.int .u8 (v : Int)) = bytesV (bs.set k v) := by simp [bytesV, List.map_set]
end Go.Proofs.Ytlcmndbnknifhaa
/- pack: an image that was turned, cut, or has a byte more (plain) -/
namespace Go.Proofs.Ytlcmndbnknifhaa
open Go.RowKit
set_option linter.unusedVariables false
set_option maxRecDepth 20000
theorem sum_one {P S : List Nat} {b c : Nat} (hP : ∀ x ∈ P, x < 256) (hS : ∀ x ∈ S, x < 256) (hb : b < 256) (hc : c < 256) (hne : b ≠ c) : Crc.sum (P ++ b :: S) ≠ Crc.sum (P ++ c :: S) := by
  intro e
  have hR := Crc.reg_lt P hP (4294967295 - 0) (by decide)
  unfold Crc.sum Crc.add at e
  have cons : ∀ (r x : Nat) (l : List Nat), Crc.reg r (x :: l) = Crc.reg (Crc.byteStep r x) l := fun r x l => rfl
  rw [Crc.reg_append, Crc.reg_append, cons, cons] at e
  have h1 := Crc.byteStep_lt hR hb
  have h2 := Crc.byteStep_lt hR hc
  have h3 := Crc.reg_lt S hS _ h1
  have h4 := Crc.reg_lt S hS _ h2
  have h5 := Crc.reg_inj S hS h1 h2 (by omega)
  have h6 := Crc.stN_inj (k := 8) (Crc.xor_lt32 hR (by omega)) (Crc.xor_lt32 hR (by omega)) h5
  have h7 : ∀ r x : Nat, r ^^^ (r ^^^ x) = x := fun r x => by rw [← Nat.xor_assoc, Nat.xor_self, Nat.zero_xor]
  have h8 := congrArg (fun z => Crc.reg (4294967295 - 0) P ^^^ z) h6
  simp only [h7] at h8
  exact hne h8
theorem split1 {l : List Nat} {k : Nat} (h : k < l.length) (v : Nat) : l = l.take k ++ l.getD k 0 :: l.drop (k + 1) ∧ l.set k v = l.take k ++ v :: l.drop (k + 1) := by
  refine ⟨?_, List.set_eq_take_append_cons_drop.trans (if_pos h)⟩
  conv => lhs; rw [← List.take_append_drop k l]
  rw [List.drop_eq_getElem_cons h, List.getD_eq_getElem?_getD, List.getElem?_eq_getElem h]; rfl
theorem num4_inj {l m : List Nat} (h1 : l.length = 4) (h2 : m.length = 4) (hl : ∀ x ∈ l, x < 256) (hm : ∀ x ∈ m, x < 256) (h : Cod.numOf l = Cod.numOf m) : l = m := by
  match l, m, h1, h2 with
  | [a, b, c, d], [a', b', c', d'], _, _ =>
    simp only [Cod.numOf, List.foldl_cons, List.foldl_nil] at h
    have a1 := hl a (by simp); have b1 := hl b (by simp); have c1 := hl c (by simp); have d1 := hl d (by simp)
    have a2 := hm a' (by simp); have b2 := hm b' (by simp); have c2 := hm c' (by simp); have d2 := hm d' (by simp)
    obtain rfl : a = a' := by omega
    obtain rfl : b = b' := by omega
    obtain rfl : c = c' := by omega
    obtain rfl : d = d' := by omega
    rfl
/-- sealed bytes of which one is another one are not well sealed -/
theorem sealB_turned {bs : List Nat} (hb : ∀ x ∈ bs, x < 256) (k v : Nat) (hk : k < (sealB bs).length) (hv : v < 256) (hne : v ≠ (sealB bs).getD k 0) : openB ((sealB bs).set k v) = false := by
  have hl := sealB_len bs
  have hlt := sealB_lt bs hb
  have c4 := Cod.bytesOf_length (Crc.sum bs) 4
  have cl := Cod.bytesOf_lt (Crc.sum bs) 4
  have cn : Cod.numOf (Cod.bytesOf (Crc.sum bs) 4) = Crc.sum bs := by
    rw [Cod.numOf_bytesOf]; exact Nat.mod_eq_of_lt (sum_lt9 _)
  unfold openB
  rw [List.length_set, hl, Nat.add_sub_cancel]
  rw [Bool.and_eq_false_iff]
  right
  refine decide_eq_false fun e => ?_
  unfold numN at e
  by_cases h1 : k < bs.length
  · have e1 : (sealB bs).set k v = bs.set k v ++ Cod.bytesOf (Crc.sum bs) 4 := by
      unfold sealB; exact List.set_append_left _ _ h1
    have ls : (bs.set k v).length = bs.length := List.length_set
    rw [e1, List.drop_left' ls, List.take_left' ls, List.take_of_length_le (by omega), cn] at e
    have g : (sealB bs).getD k 0 = bs.getD k 0 := by
      unfold sealB; rw [List.getD_eq_getElem?_getD, List.getElem?_append_left h1, ← List.getD_eq_getElem?_getD]
    obtain ⟨s1, s2⟩ := split1 h1 v
    rw [s2] at e
    conv at e => lhs; rw [s1]
    refine sum_one (fun x hx => hb x (List.mem_of_mem_take hx)) (fun x hx => hb x (List.mem_of_mem_drop hx)) ?_ hv ?_ e
    · rw [List.getD_eq_getElem?_getD, List.getElem?_eq_getElem h1]; exact hb _ (List.getElem_mem _)
    · rw [← g]; exact fun h => hne h.symm
  · have e1 : (sealB bs).set k v = bs ++ (Cod.bytesOf (Crc.sum bs) 4).set (k - bs.length) v := by
      unfold sealB; exact List.set_append_right _ _ (by omega)
    have k4 : k - bs.length < 4 := by omega
    rw [e1, List.drop_left' rfl, List.take_left' rfl, List.take_of_length_le (by rw [List.length_set]; omega)] at e
    have h2 := num4_inj (l := (Cod.bytesOf (Crc.sum bs) 4).set (k - bs.length) v) (m := Cod.bytesOf (Crc.sum bs) 4) (by rw [List.length_set, c4]) c4 (fun x hx => by
      rcases List.mem_or_eq_of_mem_set hx with hx | rfl
      · exact cl x hx
      · exact hv) cl (by rw [e, cn])
    have h3 := congrArg (fun l => l.getD (k - bs.length) 0) h2
    simp only [List.getD_eq_getElem?_getD] at h3
    rw [List.getElem?_set_self (by omega), Option.getD_some] at h3
    have g : (sealB bs).getD k 0 = (Cod.bytesOf (Crc.sum bs) 4)[k - bs.length]?.getD 0 := by
      unfold sealB; rw [List.getD_eq_getElem?_getD, List.getElem?_append_right (by omega)]
    exact hne (by rw [g]; exact h3)
theorem xor_other {y m : Nat} (h1 : 1 ≤ m) : y ^^^ m ≠ y := fun e => by
  have h2 : y ^^^ (y ^^^ m) = y ^^^ y := by rw [e]
  rw [← Nat.xor_assoc, Nat.xor_self, Nat.zero_xor] at h2
  omega
theorem turned_shut (st : List GN) (at_ x : Int) : openB (Dm.turned (imgB st) at_ x) = false := by
  have hl : 4 ≤ (imgB st).length := by unfold imgB; rw [sealB_len]; omega
  have hk := Dm.k_lt (imgB st).length at_ (by omega)
  have hm := Dm.m_bd x
  have hy : (imgB st).getD (Dm.k (imgB st).length at_) 0 < 256 := by
    rw [List.getD_eq_getElem?_getD, List.getElem?_eq_getElem hk]
    exact sealB_lt _ (bodyB_lt st) _ (List.getElem_mem _)
  unfold Dm.turned
  exact sealB_turned (bodyB_lt st) _ _ hk (Nat.xor_lt_two_pow (n := 8) hy (by omega)) (xor_other hm.1)
theorem grS_small {ts : List Tx} (h : goodV ts = 0) : (grS ts).length < 65536 ∧ ∀ x ∈ grS ts, x.edges.length < 65536 := by
  obtain ⟨h1, h2⟩ := grS_edges h
  exact ⟨by omega, fun x hx => by have := h2 x hx; omega⟩
theorem cut_none {ts : List Tx} (h : goodV ts = 0) : decS ((imgB (grS ts)).take ((imgB (grS ts)).length - 1)) = none := by
  cases hd : decS ((imgB (grS ts)).take ((imgB (grS ts)).length - 1)) with
  | none => rfl
  | some t2 =>
    exfalso
    obtain ⟨h2, h3⟩ := decS_some hd
    obtain ⟨a1, a2⟩ := grS_small h
    obtain ⟨b1, b2⟩ := grS_small h2
    have hl : 4 ≤ (imgB (grS ts)).length := by unfold imgB; rw [sealB_len]; omega
    have e : imgB (grS t2) ++ (imgB (grS ts)).drop ((imgB (grS ts)).length - 1) = imgB (grS ts) := by rw [h3, List.take_append_drop]
    unfold imgB sealB at e
    rw [List.append_assoc] at e
    have h4 := congrArg List.length (body_cut e b1 a1 b2 a2)
    rw [List.length_append, Cod.bytesOf_length, Cod.bytesOf_length, List.length_drop] at h4
    unfold imgB sealB at hl
    omega
theorem more_none {ts : List Tx} (h : goodV ts = 0) (z : Nat) : decS (imgB (grS ts) ++ [z]) = none := by
  cases hd : decS (imgB (grS ts) ++ [z]) with
  | none => rfl
  | some t2 =>
    exfalso
    obtain ⟨h2, h3⟩ := decS_some hd
    obtain ⟨a1, a2⟩ := grS_small h
    obtain ⟨b1, b2⟩ := grS_small h2
    unfold imgB sealB at h3
    rw [List.append_assoc] at h3
    have h4 := congrArg List.length (body_cut h3 b1 a1 b2 a2)
    rw [List.length_append, Cod.bytesOf_length, Cod.bytesOf_length] at h4
    simp at h4
end Go.Proofs.Ytlcmndbnknifhaa
/- the document's Turned (split from Nr2) -/
namespace Go.Proofs.Ytlcmndbnknifhaa
open Go.RowKit
set_option linter.unusedVariables false
set_option maxRecDepth 20000
theorem u8d_info : (Try.prog.info? 5).map (fun i => (i.zero, i.size, i.bytes)) = some (some (.int .u8 0), 1, 1) := by kernel_rfl
set_option maxHeartbeats 1600000 in
theorem rturned_any (a : Option Addr) (n c : Nat) (bs : List Nat) (at_ x : Int) (w : World) (h : HoldsB w a n bs) (hnone : a = none → n = 0 ∧ c = 0) (h0 : 0 < n) (hn : n ≤ 1000000) :
    Calls Try.prog 23 #[.slice a n c, .int .i64 at_, .int .i64 x] w (RetB 5 w (Dm.turned bs at_ x)) := by
  obtain ⟨i0, hi, hz0, hz1, hz2⟩ := info_parts u8d_info
  have HVC := Lib.hid (h.values.cells (w' := w) ⟨rfl, rfl, rfl, Nat.le_refl _, fun _ _ _ => rfl⟩)
  have hbl : (bytesV bs).length = n * 1 := by rw [bytesV_length, h.len]; omega
  have hl := h.len
  have hk := Dm.k_eq n at_ h0
  have hkl := Dm.k_lt n at_ h0
  have hm := Dm.m_eq x
  have hmb := Dm.m_bd x
  have hbs := h.2
  obtain ⟨k, hkk⟩ : ∃ k, Dm.k n at_ = k := ⟨_, rfl⟩
  obtain ⟨m, hmm⟩ : ∃ m, Dm.m x = m := ⟨_, rfl⟩
  obtain ⟨y, hy⟩ : ∃ y, bs.getD k 0 = y := ⟨_, rfl⟩
  have hyb : y < 256 := by
    rw [← hy, List.getD_eq_getElem?_getD, List.getElem?_eq_getElem (by omega)]
    exact hbs _ (List.getElem_mem _)
  rw [hkk] at hk hkl
  rw [hmm] at hm hmb
  have hT : Dm.turned bs at_ x = bs.set k (y ^^^ m) := by unfold Dm.turned; rw [hl, hkk, hy, hmm]
  have HBS := Lib.hid hbs
  have TT := Lib.hid hT; have HY := Lib.hid hy; have HL := Lib.hid hl
  have z0 : ((n : Int) == 0) = false := by simp; omega
  have b1 := Dm.u64_bd at_
  have b2 := Dm.u64_bd x
  have w1 : IntKind.u64.wrap (n : Int) = (n : Int) := by simp only [IntKind.wrap, IntKind.signed, IntKind.bits]; simp; omega
  have w2 : IntKind.u64.wrap (1 + IntKind.u64.wrap x % 255) = (m : Int) := by rw [hm]; simp only [IntKind.wrap, IntKind.signed, IntKind.bits]; simp; omega
  have w3 : IntKind.u8.wrap (m : Int) = (m : Int) := by simp only [IntKind.wrap, IntKind.signed, IntKind.bits]; simp; omega
  have hx : bits BinOp.xor IntKind.u8 (y : Int) (m : Int) = ((y ^^^ m : Nat) : Int) := u8_xor_nat y m hyb (by omega)
  have w4 : IntKind.i64.wrap (k : Int) = (k : Int) := IntWalk.i64_in _ (by omega)
  have k1 : (0 : Int) ≤ (k : Int) := by omega
  have k2 : (k : Int) < (n : Int) := by omega
  have HNO := Lib.hid hnone
  clear h hnone hl hT hy hkk hmm hbs
  go_enter Try.func23, Try.ntmps23
  go_upto_region 2 with (at_builtin; refine wpList_append_any rfl (.const (.slice none 0 0)) (.tmp 9) 25 rfl w.heap.size 5 i0 _ 1 1 Try.underlying25 hi hz0 hz1 hz2 rfl (by decide) _ 0 [] rfl (World.ownsRow_nil _ _ _ _) a n c (bytesV bs) rfl HNO.out hbl HVC.out (bytesV_one _) (by unfold maxLen; omega) (by omega) (by simp) ?_; intro a3 c3 w3' ho hb hnil)
  rw [Nat.zero_add, List.nil_append] at ho
  obtain ⟨g, rfl⟩ : ∃ g, a3 = some ⟨g, 0, none⟩ := by
    obtain ⟨g, cap', hv⟩ := Joins.ownsRow_form ho (by omega)
    simp only [Value.slice.injEq] at hv
    exact ⟨g, hv.1⟩
  have O3 := Lib.hid ho; have B3 := Lib.hid hb
  obtain ⟨gb, go, hge, hc⟩ := (holdsB_of_values (owns_holds ho) HBS.out).at (by omega)
  injection hge with hge; injection hge with e1 e2; subst e1 e2
  have ck := hc k hkl
  rw [Nat.zero_add, HY.out] at ck
  clear hc
  have fk := ho.frozenAt k
  have B5 := Lib.hid (B3.out.setCell (p := ⟨g, k, none⟩) (O3.out.lt g rfl).1 (.int .u8 ((y ^^^ m : Nat) : Int)))
  have O5 := Lib.hid ((O3.out.stored k (.int .u8 ((y ^^^ m : Nat) : Int))).1)
  have hlen : (Dm.turned bs at_ x).length = n := by rw [Dm.turned_len, HL.out]
  have RR := Lib.hid (show RetB 5 w (Dm.turned bs at_ x) (.returned (.slice (some ⟨g, 0, none⟩) n c3)) (w3'.setCell ⟨g, k, none⟩ (.int .u8 ((y ^^^ m : Nat) : Int))) from
    ⟨some ⟨g, 0, none⟩, c3, by rw [hlen], by rw [hlen, TT.out, ← bytesV_set]; exact O5.out, B5.out, fun h => by cases h⟩)
  clear hlen
  go_wp2_with fail
  go_ret
  exact RR.out
end Go.Proofs.Ytlcmndbnknifhaa
/- graph: a beginning more is a thread of nodes more, plain -/
namespace Go.Proofs.Ytlcmndbnknifhaa
open Go.RowKit
set_option linter.unusedVariables false
set_option maxRecDepth 20000
/-- what is behind each first rune -/
def grpS : Nat → List Tx → List (List Tx)
  | 0, _ => []
  | n + 1, l => if l = [] then [] else (folS l).2 :: grpS n (l.drop (folS l).2.length)
/-- what is come to from the texts -/
inductive Der : List Tx → List Tx → Prop
  | refl (s : List Tx) : Der s s
  | step {s y x : List Tx} : y ∈ grpS (bodS s).length (bodS s) → Der y x → Der s x
theorem reach_der : ∀ (f : Nat) (st : List GN) (s x : List Tx), x ∈ restsG (reachF f st s).2 → x ∈ restsG st ∨ Der s x
  | 0, st, s, x, h => Or.inl h
  | f + 1, st, s, x, h => by
    unfold reachF at h
    cases hf : findG st s with
    | some i => rw [hf] at h; exact Or.inl h
    | none =>
      rw [hf] at h
      simp only at h
      obtain ⟨g, hg, e⟩ := List.mem_map.1 h
      rcases List.mem_or_eq_of_mem_set hg with hg | rfl
      · have key : ∀ (n : Nat) (l : List Tx) (es : List EdP) (st1 : List GN) (x : List Tx), x ∈ restsG (edgesF (reachF f) n l es st1).2 → x ∈ restsG st1 ∨ ∃ y, y ∈ grpS n l ∧ Der y x := by
          intro n
          induction n with
          | zero => intro l es st1 x h; exact Or.inl h
          | succ n ih =>
            intro l es st1 x h
            unfold edgesF at h
            by_cases h0 : l = []
            · rw [if_pos h0] at h; exact Or.inl h
            · rw [if_neg h0] at h
              rcases ih _ _ _ x h with h1 | ⟨y, h1, h2⟩
              · rcases reach_der f st1 _ x h1 with h2 | h2
                · exact Or.inl h2
                · exact Or.inr ⟨_, by unfold grpS; rw [if_neg h0]; exact List.mem_cons_self, h2⟩
              · exact Or.inr ⟨y, by unfold grpS; rw [if_neg h0]; exact List.mem_cons_of_mem _ h1, h2⟩
        rcases key _ _ _ _ x (List.mem_map.2 ⟨g, hg, e⟩) with h1 | ⟨y, h1, h2⟩
        · rw [restsG_app] at h1
          rcases List.mem_append.1 h1 with h1 | h1
          · exact Or.inl h1
          · simp only [restsG, List.map_cons, List.map_nil, List.mem_singleton] at h1
            exact Or.inr (h1 ▸ Der.refl s)
        · exact Or.inr (Der.step h1 h2)
      · exact Or.inr (e ▸ Der.refl s)
theorem grp_in {R : List (List Tx)} : ∀ (n : Nat) (l : List Tx) (es : List EdP) (y : List Tx), EdOk R l es → y ∈ grpS n l → y ∈ R
  | 0, l, es, y, _, h => by simp [grpS] at h
  | n + 1, l, [], y, h0, h => by
    have h1 : l = [] := h0
    unfold grpS at h; rw [if_pos h1] at h; simp at h
  | n + 1, l, e :: es, y, h0, h => by
    obtain ⟨h1, h2, ⟨k, h3, h4⟩, h5⟩ := h0
    unfold grpS at h; rw [if_neg h1] at h
    rcases List.mem_cons.1 h with rfl | h
    · exact List.mem_of_getElem? h4
    · exact grp_in n _ es y h5 h
theorem der_in {st : List GN} {ts s x : List Tx} (G : GOk st ts) (h : Der s x) : s ∈ restsG st → x ∈ restsG st := by
  induction h with
  | refl => exact id
  | step hy hd ih =>
    intro hs
    obtain ⟨g, hg, e⟩ := List.mem_map.1 hs
    have h1 := (G.nodes g hg).ed
    rw [e] at h1
    exact ih (grp_in _ _ _ _ h1 hy)
theorem root_mem {st : List GN} {ts : List Tx} (G : GOk st ts) : ts ∈ restsG st := List.mem_of_getElem? G.root
/-- the nodes are just what is come to -/
theorem gr_der {ts : List Tx} (h : goodV ts = 0) (hs : ∀ t ∈ ts, t.size ≤ 100) (x : List Tx) : x ∈ restsG (grS ts) ↔ Der ts x := by
  refine ⟨fun hx => ?_, fun hx => der_in (grS_ok h hs) hx (root_mem (grS_ok h hs))⟩
  rcases reach_der 13 [] ts x hx with h1 | h1
  · simp [restsG] at h1
  · exact h1
theorem len_sub {α : Type} [DecidableEq α] : ∀ (l m : List α), l.Nodup → (∀ x ∈ l, x ∈ m) → l.length ≤ m.length
  | [], m, _, _ => by simp
  | a :: l, m, h, hm => by
    rw [List.nodup_cons] at h
    have h1 := len_sub l (m.erase a) h.2 (fun x hx => (List.mem_erase_of_ne (fun (e : x = a) => h.1 (e ▸ hx))).2 (hm x (by simp [hx])))
    have h2 : a ∈ m := hm a (by simp)
    have h3 := List.length_erase_of_mem h2
    have h4 := List.length_pos_of_mem h2
    simp only [List.length_cons]
    omega
theorem tw_all {α : Type} {p : α → Bool} : ∀ {l : List α}, (∀ x ∈ l, p x = true) → l.takeWhile p = l
  | [], _ => rfl
  | a :: l, h => by rw [List.takeWhile_cons_of_pos (h a (by simp)), tw_all (fun x hx => h x (by simp [hx]))]
def preS (s : Tx) (l : List Tx) : List Tx := l.map (fun t => s ++ t)
theorem lab_join {s : Tx} (h : 0 ≤ lenS s) (h0 : 0 < s.size) (t : Tx) : labS (s ++ t) = labS s ∧ rstS (s ++ t) = rstS s ++ t := by
  obtain ⟨h1, h2, -⟩ := good_first h h0
  obtain ⟨h3, h4⟩ := decode_left s t 0 h0 h1
  refine ⟨by unfold labS; rw [h3], ?_⟩
  unfold rstS
  rw [h3]
  apply tx_ext
  simp only [ByteArray.data_extract, ByteArray.data_append, Array.toList_extract, Array.toList_append, List.extract_eq_take_drop, ByteArray.size_append]
  have e1 : s.data.toList.length = s.size := by simp
  have e2 : t.data.toList.length = t.size := by simp
  rw [List.drop_append_of_le_length (by omega), List.take_of_length_le (by simp; omega), List.take_of_length_le (by simp)]
theorem der_pre {s : Tx} (h : 0 ≤ lenS s) (h0 : 0 < s.size) {l : List Tx} (hl : l ≠ []) (x : List Tx) : Der (preS s l) x ↔ x = preS s l ∨ Der (preS (rstS s) l) x := by
  have hsz : ∀ t, s ++ t ≠ (⟨#[]⟩ : ByteArray) := fun t e => by
    have h1 := congrArg ByteArray.size e
    rw [ByteArray.size_append] at h1
    have h2 : (⟨#[]⟩ : ByteArray).size = 0 := rfl
    omega
  have hb : bodS (preS s l) = preS s l := by
    unfold bodS finS
    cases l with
    | nil => exact absurd rfl hl
    | cons a l => simp [preS, hsz a]
  have hf : (folS (preS s l)).2 = preS (rstS s) l := by
    cases l with
    | nil => exact absurd rfl hl
    | cons a l =>
      show ((preS s (a :: l)).takeWhile (fun t => decide (labS t = labS (s ++ a)))).map rstS = _
      rw [tw_all (fun t ht => by
        obtain ⟨u, -, rfl⟩ := List.mem_map.1 ht
        simp [(lab_join h h0 u).1, (lab_join h h0 a).1])]
      unfold preS
      rw [List.map_map]
      exact List.map_congr_left fun t _ => (lab_join h h0 t).2
  have hg : grpS (bodS (preS s l)).length (bodS (preS s l)) = [preS (rstS s) l] := by
    rw [hb]
    have hlen : (preS s l).length = (l.length - 1) + 1 := by
      have := List.length_pos_iff.2 hl
      simp [preS]; omega
    rw [hlen]
    unfold grpS
    have hne : preS s l ≠ [] := by simp [preS, hl]
    rw [if_neg hne, hf]
    have hd : (preS s l).drop (preS (rstS s) l).length = [] := by
      apply List.drop_eq_nil_of_le; simp [preS]
    rw [hd]
    congr 1
    cases l.length - 1 with
    | zero => rfl
    | succ n => rfl
  constructor
  · intro hd
    cases hd with
    | refl => exact Or.inl rfl
    | step hy hd =>
      rw [hg] at hy
      rw [List.mem_singleton] at hy
      exact Or.inr (hy ▸ hd)
  · rintro (rfl | hd)
    · exact Der.refl _
    · exact Der.step (by rw [hg]; exact List.mem_singleton.2 rfl) hd
def maxL (l : List Tx) (m : Int) : Prop := (∀ t ∈ l, 0 ≤ lenS t ∧ lenS t ≤ m) ∧ ∃ t ∈ l, lenS t = m
theorem grp_max : ∀ (n : Nat) (l y : List Tx) (m : Int), (∀ t ∈ l, 0 ≤ lenS t ∧ lenS t ≤ m) → (∀ t ∈ l, 0 < t.size) → y ∈ grpS n l → ∀ t ∈ y, 0 ≤ lenS t ∧ lenS t ≤ m
  | 0, l, y, m, _, _, h => by simp [grpS] at h
  | n + 1, l, y, m, hl, hp, h => by
    unfold grpS at h
    by_cases h0 : l = []
    · rw [if_pos h0] at h; simp at h
    · rw [if_neg h0] at h
      rcases List.mem_cons.1 h with rfl | h
      · intro t ht
        obtain ⟨k, hk, h1, h2⟩ := fol_split h0
        rw [h2] at ht
        obtain ⟨u, hu, rfl⟩ := List.mem_map.1 ht
        have hm := List.mem_of_mem_take hu
        have h3 := rst_len (hl u hm).1 (hp u hm)
        have h4 := hl u hm
        omega
      · exact grp_max n _ y m (fun t ht => hl t (List.mem_of_mem_drop ht)) (fun t ht => hp t (List.mem_of_mem_drop ht)) h
theorem max_ex : ∀ (l : List Tx), l ≠ [] → ∃ t ∈ l, ∀ u ∈ l, lenS u ≤ lenS t
  | [], h => absurd rfl h
  | [a], _ => ⟨a, by simp, fun u hu => by simp at hu; rw [hu]; omega⟩
  | a :: b :: l, _ => by
    obtain ⟨t, ht, h⟩ := max_ex (b :: l) (by simp)
    by_cases hc : lenS a ≤ lenS t
    · exact ⟨t, List.mem_cons_of_mem _ ht, fun u hu => by
        rcases List.mem_cons.1 hu with rfl | hu
        · exact hc
        · exact h u hu⟩
    · exact ⟨a, by simp, fun u hu => by
        rcases List.mem_cons.1 hu with rfl | hu
        · omega
        · have := h u hu; omega⟩
theorem der_max {st : List GN} {ts s x : List Tx} (G : GOk st ts) (m : Int) (h : Der s x) : s ∈ restsG st → (∀ t ∈ s, 0 ≤ lenS t ∧ lenS t ≤ m) → ∀ t ∈ x, 0 ≤ lenS t ∧ lenS t ≤ m := by
  induction h with
  | refl => exact fun _ h => h
  | step hy hd ih =>
    intro hs hm
    obtain ⟨g, hg, e⟩ := List.mem_map.1 hs
    have h1 := (G.nodes g hg).ed
    have h2 := (G.nodes g hg).ok
    rw [e] at h1 h2
    refine ih (grp_in _ _ _ _ h1 hy) (grp_max _ _ _ m (fun t ht => ?_) (bod_pos h2.ord) hy)
    unfold bodS at ht
    split at ht
    · exact hm t (List.mem_of_mem_tail ht)
    · exact hm t ht
def chainS : Nat → Tx → List Tx → List (List Tx)
  | 0, _, _ => []
  | n + 1, s, l => preS s l :: chainS n (rstS s) l
theorem pos_len {s : Tx} (h : 0 < lenS s) : 0 < s.size := by have := (lenS_bd s).2; omega
theorem chain_len (l : List Tx) : ∀ (n : Nat) (s : Tx), (chainS n s l).length = n
  | 0, s => rfl
  | n + 1, s => by simp [chainS, chain_len l n]
theorem pre_len {s : Tx} (h : 0 ≤ lenS s) {l : List Tx} {m : Int} (hm : maxL l m) : maxL (preS s l) (lenS s + m) := by
  obtain ⟨h1, t, h2, h3⟩ := hm
  refine ⟨fun u hu => ?_, s ++ t, List.mem_map.2 ⟨t, h2, rfl⟩, by rw [lenS_join s t h (h1 t h2).1, h3]⟩
  obtain ⟨v, hv, rfl⟩ := List.mem_map.1 hu
  have h4 := h1 v hv
  rw [lenS_join s v h h4.1]
  omega
theorem chain_max {l : List Tx} {m : Int} (hm : maxL l m) : ∀ (n : Nat) (s : Tx), lenS s = n → ∀ x ∈ chainS n s l, ∃ k : Int, m < k ∧ k ≤ m + n ∧ maxL x k
  | 0, s, _, x, hx => by simp [chainS] at hx
  | n + 1, s, hs, x, hx => by
    have h0 : 0 < s.size := pos_len (by omega)
    rcases List.mem_cons.1 hx with rfl | hx
    · exact ⟨lenS s + m, by omega, by omega, pre_len (by omega) hm⟩
    · have h1 := rst_len (t := s) (by omega) h0
      obtain ⟨k, k1, k2, k3⟩ := chain_max hm n (rstS s) (by omega) x hx
      exact ⟨k, k1, by omega, k3⟩
theorem max_one {l : List Tx} {a b : Int} (h : maxL l a) (k : maxL l b) : a = b := by
  obtain ⟨h1, t, h2, h3⟩ := h
  obtain ⟨k1, u, k2, k3⟩ := k
  have e1 := k1 t h2
  have e2 := h1 u k2
  omega
theorem chain_nodup {l : List Tx} {m : Int} (hm : maxL l m) : ∀ (n : Nat) (s : Tx), lenS s = n → (chainS n s l).Nodup
  | 0, s, _ => List.nodup_nil
  | n + 1, s, hs => by
    have h0 : 0 < s.size := pos_len (by omega)
    have h1 := rst_len (t := s) (by omega) h0
    refine List.nodup_cons.2 ⟨fun hx => ?_, chain_nodup hm n (rstS s) (by omega)⟩
    obtain ⟨k, k1, k2, k3⟩ := chain_max hm n (rstS s) (by omega) _ hx
    have := max_one k3 (pre_len (s := s) (by omega) hm)
    omega
theorem chain_der {l : List Tx} (hl : l ≠ []) : ∀ (n : Nat) (s : Tx), lenS s = n → ∀ x, Der (preS s l) x ↔ x ∈ chainS n s l ∨ Der l x
  | 0, s, hs, x => by
    have h1 := lenS_pos (s := s) (by omega)
    have h2 : runesS s = [] := List.eq_nil_of_length_eq_zero (by have := h1.2; omega)
    have h3 := empty_of s (runes_none s h2)
    have h4 : preS s l = l := by
      unfold preS
      rw [h3]
      refine (List.map_congr_left fun t _ => ?_).trans (List.map_id l)
      apply tx_ext; simp
    rw [h4]
    simp [chainS]
  | n + 1, s, hs, x => by
    have h0 : 0 < s.size := pos_len (by omega)
    have h1 := rst_len (t := s) (by omega) h0
    rw [der_pre (by omega) h0 hl, chain_der hl n (rstS s) (by omega) x, chainS, List.mem_cons, or_assoc]
/-- a beginning more: a node for each of its runes -/
theorem graph_put {ts : List Tx} {s : Tx} (hn : ts ≠ []) (hg : goodV ts = 0) (hz : ∀ t ∈ ts, t.size ≤ 100) (hs : 0 ≤ lenS s) (hg2 : goodV (preS s ts) = 0) (hz2 : ∀ t ∈ preS s ts, t.size ≤ 100) :
    ((grS (preS s ts)).length : Int) = (grS ts).length + lenS s := by
  obtain ⟨n, hsn⟩ : ∃ n : Nat, lenS s = n := ⟨(lenS s).toNat, by omega⟩
  have hok := ok_good hg hz
  obtain ⟨t0, ht0, htm⟩ := max_ex ts hn
  have hm : maxL ts (lenS t0) := ⟨fun t ht => ⟨hok.lo t ht, htm t ht⟩, t0, ht0, rfl⟩
  have G := grS_ok hg hz
  have G2 := grS_ok hg2 hz2
  have hnd : (chainS n s ts ++ restsG (grS ts)).Nodup := by
    refine List.nodup_append.2 ⟨chain_nodup hm n s hsn, G.nodup, fun a ha b hb e => ?_⟩
    subst e
    obtain ⟨k, k1, k2, k3, t, k4, k5⟩ := chain_max hm n s hsn a ha
    have h1 := der_max G (lenS t0) ((gr_der hg hz a).1 hb) (root_mem G) hm.1 t k4
    omega
  have hmem : ∀ x, x ∈ restsG (grS (preS s ts)) ↔ x ∈ chainS n s ts ++ restsG (grS ts) := fun x => by
    rw [gr_der hg2 hz2, chain_der hn n s hsn, List.mem_append, gr_der hg hz]
  have e1 := len_sub _ _ G2.nodup (fun x hx => (hmem x).1 hx)
  have e2 := len_sub _ _ hnd (fun x hx => (hmem x).2 hx)
  rw [List.length_append, chain_len] at e1 e2
  simp only [restsG, List.length_map] at e1 e2
  omega
theorem cmpL_app : ∀ (p x y : List UInt8), cmpL (p ++ x) (p ++ y) = cmpL x y
  | [], x, y => rfl
  | a :: p, x, y => by
    rw [List.cons_append, List.cons_append, cmpL_cons, if_neg (by omega), if_neg (by omega), cmpL_app p]
theorem cmp_pre (s x y : Tx) : cmpS (s ++ x) (s ++ y) = cmpS x y := by
  unfold cmpS
  rw [ByteArray.toList_eq, ByteArray.toList_eq, ByteArray.toList_eq, ByteArray.toList_eq]
  simp only [ByteArray.data_append, Array.toList_append]
  exact cmpL_app _ _ _
theorem good_pre {ts : List Tx} {s : Tx} (hg : goodV ts = 0) (hs : 0 ≤ lenS s) (hw : ∀ t ∈ ts, lenS t + lenS s ≤ 12) : goodV (preS s ts) = 0 := by
  obtain ⟨h1, h2, h3⟩ := goodV_zero hg
  refine goodV_good (by simp [preS]; exact h1) (fun t ht => ?_) ?_
  · obtain ⟨u, hu, rfl⟩ := List.mem_map.1 ht
    have h4 := h2 u hu
    have h5 := hw u hu
    unfold wordP at *
    rw [lenS_join s u hs (by omega)]
    omega
  · unfold SortedS preS
    rw [List.pairwise_map]
    exact h3.imp fun h => by rw [cmp_pre]; exact h
end Go.Proofs.Ytlcmndbnknifhaa
/- contract of list.Merge -/
namespace Go.Proofs.Ytlcmndbnknifhaa
open Go.RowKit
set_option linter.unusedVariables false
set_option maxRecDepth 20000
/-- 'make([]T, 0, c)': a slice of the call's own with room -/
theorem wpList_make_room {P : Program} (w : World) {ops : Array Oper} {rest : List Oper} {o : Oper} {a : Act} {Q : Exit → Act → World → Prop}
    (hg : o.guard = none) (l c : Operand) (t : TypeId) (hop : o.op = Op.makeSlice t l c)
    (e : TypeId) (i : TypeInfo) (z : Value) (bytes : Nat) (ht : P.underlying t = some (.slice e)) (hi : P.info? e = some i) (hz : i.zero = some z) (hsize : i.size = 1) (hby : i.bytes = bytes) (hz1 : z.cells = #[z])
    (base n : Nat) (hl : a.eval l = .int .i64 0) (cv : Int) (hc : a.eval c = .int .i64 cv) (hcv : cv = (n : Int)) (hbytes : bytes * n ≤ 281474976710656) (h63 : n ≤ maxLen) (hbase : base ≤ w.heap.size)
    (hK : ∀ w', w'.ownsRow base e 1 (.slice (some ⟨w.heap.size, 0, none⟩) 0 n) 0 [] → Below base w w' → wpList P ops Q rest (a.put o.dst (.slice (some ⟨w.heap.size, 0, none⟩) 0 n)) w') :
    wpList P ops Q (o :: rest) a w := by
  subst hcv
  refine wpList_plain hg fun K hK' => ?_
  have hb' : (i.bytes : Int) * (n : Int) ≤ 281474976710656 := by
    rw [hby]
    have h : ((bytes * n : Nat) : Int) ≤ 281474976710656 := by omega
    rwa [Int.natCast_mul] at h
  have hrun := run_make (P := P) w t e i z ht hi hz .i64 .i64 0 n (Int.le_refl _) (by omega) hb' (by unfold maxLen at h63; omega)
  simp only [Int.toNat_natCast, Int.toNat_zero, hsize, Nat.mul_one, hz1] at hrun
  unfold Oper.wp
  simp [execOp, hop, hl, hc, hrun, Result.andThen]
  refine hK' _ _ (hK _ ?_ ((Below.refl _ _).alloc hbase _))
  exact ⟨rfl, .inr ⟨w.heap.size, n, _, rfl, hbase, heap_alloc_new w _, Nat.zero_le _, h63, by simp [madeCells], by simp⟩⟩
theorem mergeL_lt {x y : Tx} {xs ys : List Tx} (h : cmpS x y < 0) : mergeL (x :: xs) (y :: ys) = x :: mergeL xs (y :: ys) := by rw [mergeL_cons, if_pos h]
theorem mergeL_eq {x y : Tx} {xs ys : List Tx} (h : cmpS x y = 0) : mergeL (x :: xs) (y :: ys) = x :: mergeL xs ys := by rw [mergeL_cons, if_neg (by omega), if_pos h]
theorem mergeL_gt {x y : Tx} {xs ys : List Tx} (h : 0 < cmpS x y) : mergeL (x :: xs) (y :: ys) = y :: mergeL (x :: xs) ys := by rw [mergeL_cons, if_neg (by omega), if_neg (by omega)]
theorem merge_step {M P : List Tx} {x y : Tx} {xs ys : List Tx} {i j : Nat} (hM : M = P ++ mergeL (xs.drop i) (ys.drop j)) (hx : xs.drop i = x :: xs.drop (i + 1)) (hy : ys.drop j = y :: ys.drop (j + 1)) :
    (cmpS x y < 0 → M = (P ++ [x]) ++ mergeL (xs.drop (i + 1)) (ys.drop j)) ∧ (cmpS x y = 0 → M = (P ++ [x]) ++ mergeL (xs.drop (i + 1)) (ys.drop (j + 1))) ∧ (0 < cmpS x y → M = (P ++ [y]) ++ mergeL (xs.drop i) (ys.drop (j + 1))) := by
  refine ⟨fun h => ?_, fun h => ?_, fun h => ?_⟩
  · rw [hM, hx, hy, mergeL_lt h, List.append_assoc]; rfl
  · rw [hM, hx, hy, mergeL_eq h, List.append_assoc]; rfl
  · rw [hM, hx, hy, mergeL_gt h, List.append_assoc]; rfl
theorem HoldsT.tail {w : World} {b o m : Nat} {ts : List Tx} (h : HoldsT w (some ⟨b, o, none⟩) (m + 1) ts) : HoldsT w (some ⟨b, o + 1, none⟩) m (ts.drop 1) := by
  have := h.drop 1 (by omega)
  simpa using this
theorem HoldsT.tail' {w : World} {b o q c : Nat} {ts : List Tx} (h : HoldsT w (some ⟨b, o, none⟩) (q + 1) ts) (hc : q + 1 ≤ c) : HoldsT w (if c = 1 then some ⟨b, o, none⟩ else some ⟨b, o + 1, none⟩) q (ts.drop 1) := by
  split
  · obtain rfl : q = 0 := by omega
    have := h.tail
    exact ⟨this.1, fun h => absurd h (by omega)⟩
  · exact h.tail
theorem ite_none {p : Prop} {c : Prop} [Decidable c] (a b : Addr) : ((if c then some a else some b) = none) → p := by split <;> exact fun h => by cases h
def lenV : Value → Nat | .slice _ n _ => n | _ => 0
end Go.Proofs.Ytlcmndbnknifhaa
/- contracts of the document's ways with lists of words -/
namespace Go.Proofs.Ytlcmndbnknifhaa
open Go.RowKit
set_option linter.unusedVariables false
set_option maxRecDepth 20000
theorem putF_len (w : Tx) : ∀ (xs : List Tx) (b : Bool), (putF w b xs).length ≤ xs.length + 1
  | [], b => by cases b <;> simp [putF]
  | x :: xs, true => by rw [putF_true]; simp
  | x :: xs, false => by
    rw [putF, List.length_append, List.length_cons, List.length_cons]
    by_cases h : 0 < cmpS x w
    · rw [if_pos ⟨rfl, h⟩, decide_eq_true (by omega), Bool.or_true, putF_true]; simp; omega
    · rw [if_neg (fun k => h k.2)]
      have := putF_len w xs (false || decide (0 ≤ cmpS x w))
      simp at this ⊢; omega
theorem putS_len (xs : List Tx) (w : Tx) : (putS xs w).length ≤ xs.length + 1 := putF_len w xs false
theorem putF_step (t x : Tx) (r : List Tx) (b b' : Bool) (v : Int) (hv : cmpS x t = v) (h : ¬ (b = false ∧ 0 < v)) (hb : (b || decide (0 ≤ v)) = b') : putF t b (x :: r) = x :: putF t b' r := by
  subst hv hb; rw [putF, if_neg h]; rfl
theorem putF_first (t x : Tx) (r : List Tx) (v : Int) (hv : cmpS x t = v) (h : 0 < v) : putF t false (x :: r) = t :: x :: putF t true r := by
  subst hv; rw [putF, if_pos ⟨rfl, h⟩, decide_eq_true (by omega)]; rfl
/-- a list of texts that was answered -/
def RetH (w : World) (ys : List Tx) (e : Ending) (w' : World) : Prop := ∃ a c, e = .returned (.slice a ys.length c) ∧ HoldsT w' a ys.length ys ∧ (a = none → ys.length = 0 ∧ c = 0) ∧ Below w.heap.size w w'
end Go.Proofs.Ytlcmndbnknifhaa
/- what one list has without another one: plain -/
namespace Go.Proofs.Ytlcmndbnknifhaa
open Go.RowKit
set_option linter.unusedVariables false
set_option maxRecDepth 20000
theorem filter_snoc (p : Tx → Bool) (xs : List Tx) (x : Tx) : (xs ++ [x]).filter p = xs.filter p ++ (if p x then [x] else []) := by
  rw [List.filter_append]; by_cases h : p x <;> simp [h]
def lessOf (xs ys : List Tx) : List Tx := xs.filter fun t => !decide (t ∈ ys)
theorem lessOf_yes (ys xs : List Tx) (x : Tx) (h : x ∈ ys) : lessOf (xs ++ [x]) ys = lessOf xs ys := by
  unfold lessOf; rw [filter_snoc, if_neg (by simp [h])]; simp
theorem lessOf_no (ys xs : List Tx) (x : Tx) (h : ¬ x ∈ ys) : lessOf (xs ++ [x]) ys = lessOf xs ys ++ [x] := by
  unfold lessOf; rw [filter_snoc, if_pos (by simp [h])]
theorem lessOf_len (xs ys : List Tx) : (lessOf xs ys).length ≤ xs.length := List.length_filter_le _ _
end Go.Proofs.Ytlcmndbnknifhaa
/- contracts of the document's Sorted, At, Merge, Without -/
namespace Go.Proofs.Ytlcmndbnknifhaa
open Go.RowKit
set_option linter.unusedVariables false
set_option maxRecDepth 20000
theorem ret_holds {w w' : World} {a : Option Addr} {c : Nat} {ys zs : List Tx} (h : ys = zs) (hh : HoldsT w' a ys.length ys) (hnil : a = none → ys.length = 0 ∧ c = 0) (hb : Below w.heap.size w w') (v : Value) (hv : v = .slice a ys.length c) : RetH w zs (.returned v) w' := by
  subst h hv; exact ⟨a, c, rfl, hh, hnil, hb⟩
theorem canon_len (xs : List Tx) : (canonS xs).length ≤ xs.length := by
  have : ∀ (ys acc : List Tx), (ys.foldl putS acc).length ≤ acc.length + ys.length := by
    intro ys
    induction ys with
    | nil => intro acc; simp
    | cons y ys ih => intro acc; have h1 := ih (putS acc y); have h2 := putS_len acc y; simp at h1 ⊢; omega
  simpa [canonS] using this xs []
theorem canon_snoc (xs : List Tx) (x : Tx) : canonS (xs ++ [x]) = putS (canonS xs) x := by simp [canonS, List.foldl_append]
def wordsOf (ts : List Tx) : List Tx := ts.filter fun t => decide (wordP t)
theorem wordsOf_yes (xs : List Tx) (x : Tx) (h : wordP x) : wordsOf (xs ++ [x]) = wordsOf xs ++ [x] := by
  unfold wordsOf; rw [filter_snoc, if_pos (decide_eq_true h)]
theorem wordsOf_no (xs : List Tx) (x : Tx) (h : ¬ wordP x) : wordsOf (xs ++ [x]) = wordsOf xs := by
  unfold wordsOf; rw [filter_snoc, if_neg (by simp [h])]; simp
theorem wordsOf_len (xs : List Tx) : (wordsOf xs).length ≤ xs.length := List.length_filter_le _ _
theorem sz_canon {xs : List Tx} {m : Nat} (h : ∀ t ∈ xs, t.size ≤ m) : ∀ t ∈ canonS xs, t.size ≤ m := fun t ht => h t (mem_canon.1 ht)
theorem sz_words {xs : List Tx} {m : Nat} (h : ∀ t ∈ xs, t.size ≤ m) : ∀ t ∈ wordsOf xs, t.size ≤ m := fun t ht => h t (List.mem_filter.1 ht).1
theorem sz_take {xs : List Tx} {m : Nat} (h : ∀ t ∈ xs, t.size ≤ m) (j : Nat) : ∀ t ∈ xs.take j, t.size ≤ m := fun t ht => h t (List.mem_of_mem_take ht)
theorem atN_snoc (xs : List Tx) (x w : Tx) : atN (xs ++ [x]) w = atN xs w + (if cmpS x w < 0 then 1 else 0) := by
  unfold atN
  rw [List.countP_append]
  by_cases h : cmpS x w < 0 <;> simp [h]
theorem atN_found (xs : List Tx) (j : Nat) (h : j < xs.length) (hs : SortedS xs) : atN xs (xs.getD j ByteArray.empty) = atN (xs.take j) (xs.getD j ByteArray.empty) := by
  have h1 : xs = xs.take j ++ xs.drop j := (List.take_append_drop j xs).symm
  have h2 := drop_cons xs j h
  have hs2 : SortedS (xs.drop j) := List.Pairwise.drop hs
  obtain ⟨x, hx⟩ : ∃ x, xs.getD j ByteArray.empty = x := ⟨_, rfl⟩
  rw [hx] at h2 ⊢
  rw [h2] at hs2
  have h3 := (List.pairwise_cons.1 hs2).1
  conv => lhs; rw [h1, h2]
  unfold atN
  rw [List.countP_append]
  have h4 : (x :: xs.drop (j + 1)).countP (fun y => decide (cmpS y x < 0)) = 0 := by
    rw [List.countP_eq_zero]
    intro y hy
    rcases List.mem_cons.1 hy with e | e
    · rw [e]; simp [cmpS_irrefl]
    · have := cmpS_asymm (h3 y e); simp; omega
  omega
end Go.Proofs.Ytlcmndbnknifhaa
/- contract of list.Without -/
namespace Go.Proofs.Ytlcmndbnknifhaa
open Go.RowKit
set_option linter.unusedVariables false
set_option maxRecDepth 20000
end Go.Proofs.Ytlcmndbnknifhaa
/- a list that was answered, as it reads -/
namespace Go.Proofs.Ytlcmndbnknifhaa
open Go.RowKit
set_option linter.unusedVariables false
set_option maxRecDepth 20000
theorem RetO.holds {w w' : World} {ys : List Tx} {e : Ending} (h : RetO w ys e w') : RetH w ys e w' := by
  obtain ⟨a, c, rfl, h1, h2⟩ := h
  exact ⟨a, c, rfl, HoldsT.own h1, (owns_none h1).1, h2⟩
end Go.Proofs.Ytlcmndbnknifhaa
/- the library's SortFunc, Compact, BinarySearchFunc at this seat -/
namespace Go.Proofs.Ytlcmndbnknifhaa
open Go.Shelf Go.RowKit
def Try.sortT_ren : Go.Shelf.Ren := ⟨fun | 6 => 46 | 15 => 74 | 14 => 73 | 28 => 92 | 29 => 93 | 20 => 84 | 21 => 85 | 22 => 86 | 23 => 87 | 24 => 88 | 25 => 89 | 26 => 90 | 27 => 91 | 46 => 102 | 47 => 103 | 48 => 104 | 49 => 105 | 50 => 106 | 57 => 111 | n => n, fun | 22 => 22 | 24 => 9 | 25 => 88 | 3 => 3 | 39 => 86 | 0 => 0 | 53 => 105 | 55 => 104 | 4 => 4 | 46 => 137 | 45 => 136 | 50 => 100 | 5 => 5 | 9 => 9 | 66 => 156 | 70 => 160 | 76 => 167 | 77 => 168 | n => n, fun | n => n⟩
theorem Try.sortT : Go.Proofs.SlLaysF.n6 Try.prog Try.sortT_ren := {
  mixed := by kernel_rfl
  f6 := ⟨Try.f46.name, by decide, Try.func46.trans (congrArg some (by kernel_rfl))⟩
  f14 := ⟨Try.f73.name, by decide, Try.func73.trans (congrArg some (by kernel_rfl))⟩
  f15 := Try.func74.trans (congrArg some (by kernel_rfl))
  f20 := ⟨Try.f84.name, by decide, Try.func84.trans (congrArg some (by kernel_rfl))⟩
  f21 := ⟨Try.f85.name, by decide, Try.func85.trans (congrArg some (by kernel_rfl))⟩
  f22 := ⟨Try.f86.name, by decide, Try.func86.trans (congrArg some (by kernel_rfl))⟩
  f23 := ⟨Try.f87.name, by decide, Try.func87.trans (congrArg some (by kernel_rfl))⟩
  f24 := ⟨Try.f88.name, by decide, Try.func88.trans (congrArg some (by kernel_rfl))⟩
  f25 := ⟨Try.f89.name, by decide, Try.func89.trans (congrArg some (by kernel_rfl))⟩
  f26 := ⟨Try.f90.name, by decide, Try.func90.trans (congrArg some (by kernel_rfl))⟩
  f27 := ⟨Try.f91.name, by decide, Try.func91.trans (congrArg some (by kernel_rfl))⟩
  f28 := Try.func92.trans (congrArg some (by kernel_rfl))
  f29 := Try.func93.trans (congrArg some (by kernel_rfl))
  f46 := ⟨Try.f102.name, by decide, Try.func102.trans (congrArg some (by kernel_rfl))⟩
  f47 := Try.func103.trans (congrArg some (by kernel_rfl))
  f48 := Try.func104.trans (congrArg some (by kernel_rfl))
  f49 := ⟨Try.f105.name, by decide, Try.func105.trans (congrArg some (by kernel_rfl))⟩
  f50 := ⟨Try.f106.name, by decide, Try.func106.trans (congrArg some (by kernel_rfl))⟩
  f57 := ⟨Try.f111.name, by decide, Try.func111.trans (congrArg some (by kernel_rfl))⟩
  t0 := Try.underlying0
  a0 := Try.isAgg0
  z0 := Try.sizeOf0
  v0 := Try.zeroValue0
  t3 := Try.underlying3
  a3 := Try.isAgg3
  z3 := Try.sizeOf3
  v3 := Try.zeroValue3
  t4 := Try.underlying4
  a4 := Try.isAgg4
  z4 := Try.sizeOf4
  v4 := Try.zeroValue4
  t5 := Try.underlying5
  a5 := Try.isAgg5
  z5 := Try.sizeOf5
  v5 := Try.zeroValue5
  t9 := Try.underlying9
  a9 := Try.isAgg9
  z9 := Try.sizeOf9
  v9 := Try.zeroValue9
  t22 := Try.underlying22
  a22 := Try.isAgg22
  z22 := Try.sizeOf22
  v22 := Try.zeroValue22
  a24 := Try.isAgg9
  z24 := Try.sizeOf9
  t25 := Try.underlying88
  a25 := Try.isAgg88
  z25 := Try.sizeOf88
  v25 := Try.zeroValue88
  t39 := Try.underlying86
  a39 := Try.isAgg86
  z39 := Try.sizeOf86
  v39 := Try.zeroValue86
  t45 := Try.underlying136
  a45 := Try.isAgg136
  z45 := Try.sizeOf136
  v45 := Try.zeroValue136
  t46 := Try.underlying137
  a46 := Try.isAgg137
  z46 := Try.sizeOf137
  v46 := Try.zeroValue137
  t50 := Try.underlying100
  a50 := Try.isAgg100
  z50 := Try.sizeOf100
  v50 := Try.zeroValue100
  t53 := Try.underlying105
  a53 := Try.isAgg105
  z53 := Try.sizeOf105
  v53 := Try.zeroValue105
  t55 := Try.underlying104
  a55 := Try.isAgg104
  z55 := Try.sizeOf104
  v55 := Try.zeroValue104
  t66 := Try.underlying156
  a66 := Try.isAgg156
  z66 := Try.sizeOf156
  v66 := Try.zeroValue156
  t70 := Try.underlying160
  a70 := Try.isAgg160
  z70 := Try.sizeOf160
  v70 := Try.zeroValue160
  t76 := Try.underlying167
  a76 := Try.isAgg167
  z76 := Try.sizeOf167
  v76 := Try.zeroValue167
  t77 := Try.underlying168
  a77 := Try.isAgg168
  z77 := Try.sizeOf168
  v77 := Try.zeroValue168 }
def Try.compactT_ren : Go.Shelf.Ren := ⟨fun | 194 => 47 | n => n, fun | 31 => 22 | 9 => 9 | 3 => 3 | 4 => 4 | 0 => 0 | n => n, fun | n => n⟩
theorem Try.compactT : Go.Proofs.Lays.n194 Try.prog Try.compactT_ren := {
  mixed := by kernel_rfl
  f194 := Try.func47.trans (congrArg some (by kernel_rfl))
  t0 := Try.underlying0
  a0 := Try.isAgg0
  z0 := Try.sizeOf0
  v0 := Try.zeroValue0
  t3 := Try.underlying3
  a3 := Try.isAgg3
  z3 := Try.sizeOf3
  v3 := Try.zeroValue3
  t4 := Try.underlying4
  a4 := Try.isAgg4
  z4 := Try.sizeOf4
  v4 := Try.zeroValue4
  t9 := Try.underlying9
  a9 := Try.isAgg9
  z9 := Try.sizeOf9
  v9 := Try.zeroValue9
  t31 := Try.underlying22
  a31 := Try.isAgg22
  z31 := Try.sizeOf22
  v31 := Try.zeroValue22 }
end Go.Proofs.Ytlcmndbnknifhaa
/- contract of list.Sorted -/
namespace Go.Proofs.Ytlcmndbnknifhaa
open Go.RowKit Go.Shelf Go.Sort Go.Lib
set_option linter.unusedVariables false
set_option maxRecDepth 20000
def bsT (t : Tx) : List UInt8 := t.data.toList
def unT (l : List UInt8) : Tx := ⟨l.toArray⟩
theorem un_bs (t : Tx) : unT (bsT t) = t := by simp [unT, bsT]
theorem bs_un (l : List UInt8) : bsT (unT l) = l := by simp [unT, bsT]
theorem un_inj {x y : List UInt8} (h : unT x = unT y) : x = y := by rw [← bs_un x, h, bs_un]
def cfT (x y : List UInt8) : Int := cmpS (unT x) (unT y)
theorem swoT : SWO (ltOf cfT) := {
  irrefl x := by unfold ltOf cfT; rw [decide_eq_false_iff_not]; exact cmpS_irrefl _
  trans x y z h1 h2 := by unfold ltOf cfT at *; rw [decide_eq_true_iff] at *; exact cmpS_trans h1 h2
  ntrans x y z h1 h2 := by
    unfold ltOf cfT at *
    rw [decide_eq_false_iff_not] at *
    intro h
    rcases cmpS_bd (unT x) (unT y) with e | e | e
    · exact h1 (by omega)
    · rw [cmpS_zero.1 e] at h; exact h2 h
    · have h3 : cmpS (unT y) (unT x) < 0 := by rw [cmpS_swap (unT x)]; omega
      exact h2 (cmpS_trans h3 h) }
theorem totT (x y : List UInt8) (h1 : ltOf cfT x y = false) (h2 : ltOf cfT y x = false) : x = y := by
  unfold ltOf cfT at *
  rw [decide_eq_false_iff_not] at *
  have := cmpS_swap (unT x) (unT y)
  exact un_inj (cmpS_zero.1 (by omega))
theorem strs_enc (ts : List Tx) : strsV ts = (ts.map bsT).map encStr := by
  rw [List.map_map]; unfold strsV
  apply List.map_congr_left
  intro t _
  simp [bsT]
theorem enc_strs (zs : List (List UInt8)) : zs.map encStr = strsV (zs.map unT) := by
  unfold strsV; rw [List.map_map]; rfl
/-! what Compact leaves of a list in order -/
theorem mem_compactUpTo (d : Array (List UInt8)) (m : Nat) (z : List UInt8) : z ∈ compactUpTo d m ↔ ∃ j, j < m ∧ d[j]! = z := by
  induction m with
  | zero => simp [compactUpTo]
  | succ m ih =>
    rw [compactUpTo_succ, List.mem_append, ih]
    by_cases hk : keeps d m
    · rw [if_pos hk]
      constructor
      · rintro (⟨j, h, e⟩ | h)
        · exact ⟨j, by omega, e⟩
        · simp at h; exact ⟨m, by omega, h.symm⟩
      · rintro ⟨j, h, e⟩
        by_cases h2 : j = m
        · subst h2; exact Or.inr (by simp [e])
        · exact Or.inl ⟨j, by omega, e⟩
    · rw [if_neg hk]
      have hm : ¬ (m = 0 ∨ d[m]! ≠ d[m - 1]!) := by simpa [keeps] using hk
      have h1 : m ≠ 0 := fun h => hm (Or.inl h)
      have h2 : d[m]! = d[m - 1]! := Classical.byContradiction fun h => hm (Or.inr h)
      constructor
      · rintro (⟨j, h, e⟩ | h)
        · exact ⟨j, by omega, e⟩
        · simp at h
      · rintro ⟨j, h, e⟩
        by_cases h3 : j = m
        · subst h3; exact Or.inl ⟨j - 1, by omega, by rw [← h2, e]⟩
        · exact Or.inl ⟨j, by omega, e⟩
theorem sorted_compactUpTo (d : Array (List UInt8)) (hw : ∀ i j, i < j → j < d.size → ¬ cfT d[j]! d[i]! < 0) (m : Nat) (hm : m ≤ d.size) : (compactUpTo d m).Pairwise fun x y => cfT x y < 0 := by
  induction m with
  | zero => simp [compactUpTo]
  | succ m ih =>
    rw [compactUpTo_succ]
    by_cases hk : keeps d m
    · rw [if_pos hk, List.pairwise_append]
      refine ⟨ih (by omega), by simp, fun z hz y hy => ?_⟩
      simp at hy
      subst hy
      obtain ⟨j, hj, rfl⟩ := (mem_compactUpTo d m z).1 hz
      have hm2 : m = 0 ∨ d[m]! ≠ d[m - 1]! := by simpa [keeps] using hk
      rcases hm2 with h | h
      · omega
      · have h1 := hw (m - 1) m (by omega) (by omega)
        have h2 : cfT d[m - 1]! d[m]! < 0 := by
          unfold cfT at *
          have := cmpS_swap (unT d[m]!) (unT d[m - 1]!)
          rcases cmpS_bd (unT d[m]!) (unT d[m - 1]!) with e | e | e
          · omega
          · exact absurd (un_inj (cmpS_zero.1 e)) h
          · omega
        by_cases h3 : j = m - 1
        · subst h3; exact h2
        · have h4 := hw j (m - 1) (by omega) (by omega)
          unfold cfT at *
          have := cmpS_swap (unT d[m - 1]!) (unT d[j]!)
          rcases cmpS_bd (unT d[m - 1]!) (unT d[j]!) with e | e | e
          · omega
          · rw [← cmpS_zero.1 e]; exact h2
          · exact cmpS_trans (by omega) h2
    · rw [if_neg hk]; simpa using ih (by omega)
theorem compact_canon (ts : List Tx) : ((Lib.compact ((ts.map bsT).mergeSort fun x y => !(ltOf cfT) y x)).map unT) = canonS ts := by
  obtain ⟨zs, hz⟩ : ∃ zs, ((ts.map bsT).mergeSort fun x y => !(ltOf cfT) y x) = zs := ⟨_, rfl⟩
  have hp : zs.Perm (ts.map bsT) := by rw [← hz]; exact List.mergeSort_perm _ _
  have hs : zs.Pairwise fun x y => (!(ltOf cfT) y x) = true := by
    rw [← hz]
    refine List.pairwise_mergeSort (fun a b c h1 h2 => ?_) (fun a b => ?_) _
    · simp only [Bool.not_eq_true'] at *; exact swoT.ntrans _ _ _ h2 h1
    · cases h : ltOf cfT b a with
      | false => simp
      | true =>
        have := (swoT.irrefl a)
        cases h2 : ltOf cfT a b with
        | false => simp
        | true => rw [swoT.trans _ _ _ h2 h] at this; cases this
  rw [hz]
  have hw : ∀ i j, i < j → j < zs.toArray.size → ¬ cfT zs.toArray[j]! zs.toArray[i]! < 0 := by
    intro i j hij hj
    have hj' : j < zs.length := by simpa using hj
    have h1 := List.pairwise_iff_getElem.1 hs i j (by omega) hj' hij
    rw [getElem!_pos zs.toArray j hj, getElem!_pos zs.toArray i (by simp; omega)]
    simpa [ltOf] using h1
  refine canon_of ?_ fun z => ?_
  · have := sorted_compactUpTo zs.toArray hw zs.length (by simp)
    exact List.pairwise_map.2 this
  · rw [List.mem_map]
    constructor
    · rintro ⟨x, hx, rfl⟩
      obtain ⟨j, hj, rfl⟩ := (mem_compactUpTo _ _ _).1 hx
      have h1 : zs.toArray[j]! ∈ zs := by rw [getElem!_pos zs.toArray j (by simpa using hj)]; simp
      obtain ⟨t, ht, e⟩ := List.mem_map.1 (hp.mem_iff.1 h1)
      rw [← e, un_bs]; exact ht
    · intro hz2
      have h1 : bsT z ∈ zs := hp.mem_iff.2 (List.mem_map_of_mem hz2)
      obtain ⟨j, hj, e⟩ := List.getElem_of_mem h1
      exact ⟨bsT z, (mem_compactUpTo _ _ _).2 ⟨j, hj, by rw [getElem!_pos zs.toArray j (by simpa using hj)]; simpa using e⟩, un_bs z⟩
theorem cmp_lays (blk off size : Nat) (w : World) : CmpLays1 Try.prog 45 #[] encStr cfT blk off size w := by
  intro m os dk hs x y
  refine (compare_any (unT x) (unT y) _).mono ?_
  rintro e w' ⟨rfl, rfl⟩
  exact ⟨rfl, 0, #[], by rw [grow_empty]; rfl⟩
set_option maxHeartbeats 1000000 in
theorem sort_some (g n cap B : Nat) (ts : List Tx) (w : World) (hown : w.ownsRow B 9 1 (.slice (some ⟨g, 0, none⟩) n cap) n (strsV ts)) (hn : n ≤ 1048576) :
    Calls Try.prog 46 #[.slice (some ⟨g, 0, none⟩) n cap, .func (.func 45) #[] #[]] w fun e w' => e = .returned (.tuple #[]) ∧ w'.ownsRow B 9 1 (.slice (some ⟨g, 0, none⟩) n cap) n (((ts.map bsT).mergeSort fun x y => !(ltOf cfT) y x).map encStr) ∧ (∀ b w0, B = b → Below b w0 w → Below b w0 w') := by
  have eg : ∀ args w, (callFunc 45 args).run Try.prog w = .ok (.enter 45 args) w := enters_of Try.func45 (by kernel_rfl) rfl
  rw [strs_enc] at hown
  rcases hown.2 with ⟨h0, _⟩ | ⟨g', cap', cur, hv, hbase, hb, h1, h2, h3, h4⟩
  · cases h0
  cases hv
  have hl : (ts.map bsT).length = n := by simpa using hown.1
  subst hl
  rw [Nat.mul_one] at h4
  have hH := holds_of_block hb h4
  have hS := Any.slices_SortFunc_total Try.sortT encStr (fun _ => rfl) cfT swoT 45 #[] g 0 cap (ts.map bsT).toArray w eg (cmp_lays g 0 _ w) hH (Array.getElem?_eq_some_iff.1 hb).1 (by simp at hn ⊢; omega) totT
  change Calls Try.prog 46 _ _ _ at hS
  simp only [List.size_toArray] at hS
  refine hS.mono ?_
  rintro e w' ⟨rfl, q, os, rfl⟩
  have hl2 : ((ts.map bsT).mergeSort fun x y => !(ltOf cfT) y x).length = (ts.map bsT).length := List.length_mergeSort _
  refine ⟨rfl, ownsRow_sorted (n := q) (os := os) hl2 hbase hb h1 h2 h3, ?_⟩
  rintro b w0 rfl hbel
  exact hbel.grown (grownBy_sorted _) (by have := (Array.getElem?_eq_some_iff.1 hb).1; omega) fun j hj => by cases hj; exact hbase
set_option maxHeartbeats 1000000 in
theorem compact_some (g n cap B : Nat) (zs : List (List UInt8)) (w : World) (hown : w.ownsRow B 9 1 (.slice (some ⟨g, 0, none⟩) n cap) n (zs.map encStr)) (hn : n ≤ 1048576) :
    Calls Try.prog 47 #[.slice (some ⟨g, 0, none⟩) n cap] w fun e w' => e = .returned (.slice (some ⟨g, 0, none⟩) (Lib.compact zs).length cap) ∧ w'.ownsRow B 9 1 (.slice (some ⟨g, 0, none⟩) (Lib.compact zs).length cap) (Lib.compact zs).length (strsV ((Lib.compact zs).map unT)) ∧ (∀ b w0, B = b → Below b w0 w → Below b w0 w') := by
  rcases hown.2 with ⟨h0, _⟩ | ⟨g', cap', cur, hv, hbase, hb, h1, h2, h3, h4⟩
  · cases h0
  cases hv
  have hl : zs.length = n := by simpa using hown.1
  subst hl
  rw [Nat.mul_one] at h4
  have hH := holds_of_block hb h4
  have hle := Lib.compact_length_le zs
  have hS := Any.slices_Compact_string Try.compactT g 0 cap zs w hH (by omega) h1
  change Calls Try.prog 47 _ _ _ at hS
  refine hS.mono ?_
  rintro e w' ⟨rfl, q, rfl⟩
  have hc := Lib.ownsRow_putRow (q := q) (k := (Lib.compact zs).length) (ys := Lib.compact zs ++ List.replicate (zs.length - (Lib.compact zs).length) []) hown (by simp; omega) (by omega)
  rw [List.take_left, enc_strs] at hc
  refine ⟨rfl, hc, ?_⟩
  rintro b w0 rfl hbel
  exact Lib.below_putRow hbel hbase
theorem sort_none (w : World) : Calls Try.prog 46 #[.slice none 0 0, .func (.func 45) #[] #[]] w fun e w' => e = .returned (.tuple #[]) ∧ w = w' := by
  have hS := AnyF.slices_SortFunc_none (P := Try.prog) (ρ := Try.sortT_ren) { Try.sortT with } none 0 (.func (.func 45) #[] #[]) w
  change Calls Try.prog 46 _ _ _ at hS
  refine hS.mono ?_
  rintro e w' ⟨rfl, rfl⟩
  exact ⟨rfl, rfl⟩
theorem compact_none (w : World) : Calls Try.prog 47 #[.slice none 0 0] w fun e w' => e = .returned (.slice none 0 0) ∧ w = w' := by
  have hS := Any.slices_Compact_string_empty Try.compactT none 0 w
  change Calls Try.prog 47 _ _ _ at hS
  refine hS.mono ?_
  rintro e w' ⟨rfl, rfl⟩
  exact ⟨rfl, rfl⟩
end Go.Proofs.Ytlcmndbnknifhaa
/- contract of list.Sorted: the walk -/
namespace Go.Proofs.Ytlcmndbnknifhaa
open Go.RowKit
set_option linter.unusedVariables false
set_option maxRecDepth 20000
set_option maxHeartbeats 1600000 in
theorem sorted_any (a : Option Addr) (n cap : Nat) (ts : List Tx) (w : World) (hh : HoldsT w a n ts) (hcap : n ≤ cap) (hn : n ≤ 1000) (hsz : ∀ t ∈ ts, t.size ≤ 9223372036854775807) :
    Calls Try.prog 24 #[.slice a n cap] w (RetO w (canonS (wordsOf ts))) := by
  obtain ⟨i0, hi, hz0, hz1, hz2⟩ := info_parts str_info
  have hl := hh.len
  have hmin : min (n : Int) 1000 = (n : Int) := by omega
  go_enter Try.func24, Try.ntmps24
  go_wp2_with fail
  go_loopw [3, 13] (fun ov iv wr => ∃ (j : Nat) (P : List Tx), j ≤ n ∧ P.length ≤ j ∧ iv = .int .i64 j ∧ Hid (P = wordsOf (ts.take j)) ∧ Hid (wr.ownsRow w.heap.size 9 1 ov P.length (strsV P)) ∧ Hid (Below w.heap.size w wr)) (fun _ iv _ => n - (intOf iv).toNat)
  case atStart => exact ⟨0, [], by omega, by simp, rfl, Lib.hid rfl, Lib.hid (World.ownsRow_nil _ _ _ _), Lib.hid (Below.refl _ _)⟩
  case round =>
    obtain ⟨j, P, hj, hPl, rfl, hP, hO, hB⟩ := hrel
    by_cases hlt : j < n
    · have hcell := hh.at (by omega)
      obtain ⟨bb, o, rfl, hc'⟩ := hcell
      have e0 := hc' j hlt
      have HC := Lib.hid (fun (w3 : World) (hb : Below w.heap.size w w3) => show w3.cell? ⟨bb, o + j, none⟩ = some (.string (ts.getD j ByteArray.empty)) from (hb.cell (p := ⟨bb, o + j, none⟩) (lt_of_cell e0)).trans e0)
      have hmem := getD_memT ts j (by omega)
      have htk := take_succ_getD ts ByteArray.empty j (by omega)
      obtain ⟨x, hx⟩ : ∃ x, ts.getD j ByteArray.empty = x := ⟨_, rfl⟩
      rw [hx] at hmem htk
      simp only [hx] at HC
      have HX := Lib.hid (hsz x hmem); have HT := Lib.hid htk
      clear hx hmem htk hc' e0
      have e1 := HC.out _ hB.out
      by_cases hw : wordP x
      · have HD := Lib.hid (decide_eq_true hw)
        have hws := wordsOf_yes (ts.take j) x hw
        rw [← HT.out, ← hP.out] at hws
        have HW := Lib.hid hws
        clear hws hw
        go_wp2_with fail
        refine (word_bool x true HX.out HD.out).mono ?_
        rintro e w2 ⟨rfl, hb2⟩
        have O2 := Lib.hid (owns_below hO.out hb2)
        have B2 := Lib.hid (hB.out.trans (hb2.mono hB.out.size))
        clear hb2 e1 hO hB
        go_wp2_with (at_builtin; refine wpList_append_any rfl (.tmp 19) (.tmp 21) 22 rfl w.heap.size 9 i0 (.string ⟨#[]⟩) 1 16 Try.underlying22 hi hz0 hz1 hz2 rfl (by decide) _ P.length _ rfl (O2.out.alloc _) _ 1 1 _ rfl (some_none _) rfl (one_new _ _ _ _) (one_str _) (by unfold maxLen; omega) (by omega) (by have := B2.out.size; simp; omega) ?_; intro a3 c3 w3 hown3 hb3 hnil3)
        rw [← strsV_snoc] at hown3
        have O3 := Lib.hid hown3
        have B3 := Lib.hid ((B2.out.alloc B2.out.size _).trans hb3)
        clear hown3 hb3 hnil3
        go_roundw
        case rel => exact ⟨j + 1, P ++ [x], by omega, by simp; omega, by go_num, Lib.hid HW.out.symm, Lib.hid (by have := O3.out; simpa using this), B3⟩
        case measure => simp [intOf]; omega
      · have HD := Lib.hid (decide_eq_false hw)
        have hws := wordsOf_no (ts.take j) x hw
        rw [← HT.out, ← hP.out] at hws
        have HW := Lib.hid hws
        clear hws hw
        go_wp2_with fail
        refine (word_bool x false HX.out HD.out).mono ?_
        rintro e w2 ⟨rfl, hb2⟩
        have O2 := Lib.hid (owns_below hO.out hb2)
        have B2 := Lib.hid (hB.out.trans (hb2.mono hB.out.size))
        clear hb2 e1 hO hB
        go_wp2_with fail
        go_roundw
        case rel => exact ⟨j + 1, P, by omega, by omega, by go_num, Lib.hid HW.out.symm, O2, B2⟩
        case measure => simp [intOf]; omega
    · have hjn : ts.take j = ts := List.take_of_length_le (by omega)
      have hP2 := hP.out
      rw [hjn] at hP2
      have hC := compact_canon P
      rw [hP2] at hC
      rw [← hP2] at hC
      have HP := Lib.hid hP2
      have HCC := Lib.hid (compact_canon P)
      have hPn : P.length ≤ 1048576 := by omega
      clear hP hP2 hjn hC
      rcases hO.out.2 with ⟨h, h0⟩ | ⟨g', c', cur, h, _⟩
      · subst h
        obtain rfl : P = [] := List.eq_nil_of_length_eq_zero h0
        go_wp2_with fail
        refine (sort_none _).mono ?_
        rintro e w2 ⟨rfl, rfl⟩
        go_wp2_with fail
        refine (compact_none _).mono ?_
        rintro e w3 ⟨rfl, rfl⟩
        go_wp2_with fail
        go_ret
        exact ret_own (by rw [← HP.out]) rfl (World.ownsRow_nil _ _ _ _) hB.out _ rfl
      · subst h
        have hS := Lib.hid (sort_some g' P.length c' w.heap.size P wr hO.out hPn)
        obtain ⟨zs, hzs⟩ : ∃ zs, ((P.map bsT).mergeSort fun x y => !(Go.Proofs.ltOf cfT) y x) = zs := ⟨_, rfl⟩
        rw [hzs] at hS HCC
        clear hzs
        go_wp2_with fail
        refine hS.out.mono ?_
        rintro e w2 ⟨rfl, o2, b2⟩
        have B2 := Lib.hid (b2 _ _ rfl hB.out)
        have hK := Lib.hid (compact_some g' P.length c' w.heap.size zs w2 o2 hPn)
        obtain ⟨k, hk⟩ : ∃ k, (Lib.compact zs).length = k := ⟨_, rfl⟩
        rw [hk] at hK
        rw [HP.out] at HCC
        have HK := Lib.hid hk
        clear hk o2 b2
        go_wp2_with fail
        refine hK.out.mono ?_
        rintro e w3 ⟨rfl, o3, b3⟩
        have B3 := Lib.hid (b3 _ _ rfl B2.out)
        have O3 := Lib.hid o3
        clear o3 b3
        go_wp2_with fail
        go_ret
        exact ret_own HCC.out (by rw [List.length_map, HK.out]) O3.out B3.out _ rfl
end Go.Proofs.Ytlcmndbnknifhaa
