/- msg: messages of all kinds at once -/
import Derived.Test.YthboiklcjpnhbaaMa5
namespace Go.Proofs.Ythboiklcjpnhbaa
open Go.RowKit
set_option linter.unusedVariables false
set_option maxRecDepth 20000
inductive MsgV where
  | hello (a b : Int)
  | grant (a b c : Int)
  | ask (x : AskP)
  | reply (x : RepP)
  | stop (a b : Int)
  | num (k : Int)
  | none
def valM : MsgV → Value
  | .hello a b => vHello a b
  | .grant a b c => vGrant a b c
  | .ask x => vAsk x
  | .reply x => vReply x
  | .stop a b => vStop a b
  | .num k => vNum k
  | .none => .nilIface
def kindM : MsgV → Nat
  | .hello .. => 1
  | .grant .. => 2
  | .ask _ => 3
  | .reply _ => 4
  | .stop .. => 5
  | .num _ => 0
  | .none => 0
def mayM : MsgV → Bool
  | .hello a b => mayHello a b
  | .grant a b c => mayGrant a b c
  | .ask x => mayAsk x
  | .reply x => mayReply x
  | .stop a b => mayStop a b
  | .num _ => false
  | .none => false
def bodyM : MsgV → List Nat
  | .hello a b => nsB [a, b]
  | .grant a b c => nsB [a, b, c]
  | .ask x => askB x
  | .reply x => repB x
  | .stop a b => nsB [a, b]
  | .num _ => []
  | .none => []
def frameM (M : MsgV) : List Nat := frameB (kindM M) (bodyM M)
/-- what a message holds lies in memory -/
def heldM (w : World) : MsgV → Prop
  | .reply x => HoldsK w x.ia x.n x.items ∧ (x.ia = .none → x.n = 0 ∧ x.ic = 0) ∧ x.n ≤ x.ic
  | _ => True
def smallM : MsgV → Prop
  | .ask x => x.text.size ≤ 1100 ∧ x.aw.size ≤ 1100
  | .reply x => (∀ k ∈ x.items, k.2.size ≤ 1100) ∧ x.n ≤ 1048576
  | _ => True
theorem heldM.below {w w' : World} {M : MsgV} (h : heldM w M) (hb : Below w.heap.size w w') : heldM w' M := by
  cases M <;> first | trivial | exact ⟨h.1.below hb, h.2⟩
theorem valid_all (M : MsgV) (w : World) (hh : heldM w M) (hs : smallM M) :
    Calls Try.prog 34 #[valM M] w fun e w' => e = .returned (.bool (mayM M)) ∧ Below w.heap.size w w' := by
  cases M with
  | hello a b => exact validHello a b _ w rfl
  | grant a b c => exact validGrant a b c _ w rfl
  | ask x => exact validAsk x _ w (by have := hs.1; omega) (by have := hs.2; omega) rfl
  | reply x => exact validReply x _ w hh.1 (fun k hk => by have := hs.1 k hk; omega) (by have := hs.2; omega) rfl
  | stop a b => exact validStop a b _ w rfl
  | num k => exact validNum k w
  | none => exact validNil w
theorem kindOf_all (M : MsgV) (w : World) : Calls Try.prog 43 #[valM M] w fun e w' => e = .returned (.int .i64 (kindM M : Int)) ∧ w = w' := by
  cases M with
  | hello a b => exact kindOfHello a b w
  | grant a b c => exact kindOfGrant a b c w
  | ask x => exact kindOfAsk x w
  | reply x => exact kindOfReply x w
  | stop a b => exact kindOfStop a b w
  | num k => exact kindOfNum k w
  | none => exact kindOfNil w
theorem may_n {x : RepP} {w : World} (hh : heldM w (.reply x)) (hm : mayM (.reply x) = true) : x.n ≤ 5 := by
  have h1 : mayItems x.items = true := by
    unfold mayM mayReply at hm
    simp only [Bool.and_eq_true] at hm
    exact hm.2
  unfold mayItems at h1
  simp only [Bool.and_eq_true, decide_eq_true_eq] at h1
  have := hh.1.len
  omega
theorem body_len (M : MsgV) (w : World) (hh : heldM w M) (hs : smallM M) (hm : mayM M = true) : (bodyM M).length ≤ 100000 := by
  cases M with
  | hello a b => rw [show bodyM (.hello a b) = nsB [a, b] from rfl, nsB_len]; simp
  | grant a b c => rw [show bodyM (.grant a b c) = nsB [a, b, c] from rfl, nsB_len]; simp
  | ask x =>
    have h1 := tB_len x.text (by have := hs.1; omega)
    have h2 := itB_len (x.ad, x.aw) (by have := hs.2; simp only; omega)
    have h3 := hs.1
    have h4 := hs.2
    rw [show bodyM (.ask x) = askB x from rfl]
    unfold askB
    simp only [List.length_append, nsB_len, n1_len, fB_len, h1, h2, List.length_cons, List.length_nil]
    omega
  | reply x =>
    have h1 := itsB_len x.items hs.1
    have h2 := may_n hh hm
    have h3 := hh.1.len
    rw [show bodyM (.reply x) = repB x from rfl]
    unfold repB
    simp only [List.length_append, nsB_len, n1_len, fB_len, List.length_cons, List.length_nil]
    have : 1103 * x.items.length ≤ 1103 * 5 := Nat.mul_le_mul_left _ (by omega)
    omega
  | stop a b => rw [show bodyM (.stop a b) = nsB [a, b] from rfl, nsB_len]; simp
  | num k => cases hm
  | none => cases hm
theorem frame_all (M : MsgV) (w : World) (hh : heldM w M) (hs : smallM M) (hm : mayM M = true) :
    Calls Try.prog 35 #[valM M] w (RetB 5 w (frameM M)) := by
  have hl := body_len M w hh hs hm
  refine frame_of (valM M) (kindM M) _ (bodyM M) w ?_ (fun w' => kindOf_all M w') hl (by cases M <;> simp [kindM]) rfl
  cases M with
  | hello a b => exact fieldsHello a b _ _ w rfl rfl
  | grant a b c => exact fieldsGrant a b c _ _ w rfl rfl
  | ask x => exact fieldsAsk x _ _ w hs.1 hs.2 rfl rfl
  | reply x => exact fieldsReply x _ _ w hh.1 hs.1 (by have := may_n hh hm; omega) rfl rfl
  | stop a b => exact fieldsStop a b _ _ w rfl rfl
  | num k => cases hm
  | none => cases hm
theorem n4_lt (v : Int) : ∀ b ∈ n4 v, b < 256 := Cod.bytesOf_lt _ _
theorem n1_lt (v : Int) : ∀ b ∈ n1 v, b < 256 := Cod.bytesOf_lt _ _
theorem app_lt {a b : List Nat} (ha : ∀ x ∈ a, x < 256) (hb : ∀ x ∈ b, x < 256) : ∀ x ∈ a ++ b, x < 256 := fun x hx => (List.mem_append.1 hx).elim (ha x) (hb x)
theorem nsB_lt (zs : List Int) : ∀ b ∈ nsB zs, b < 256 := fun b hb => by
  obtain ⟨z, -, h⟩ := List.mem_flatMap.1 hb
  exact n4_lt z b h
theorem itB_lt (k : KV) : ∀ b ∈ itB k, b < 256 := app_lt (n1_lt _) (tB_lt _)
theorem itsB_lt (ks : List KV) : ∀ b ∈ itsB ks, b < 256 := fun b hb => by
  obtain ⟨z, -, h⟩ := List.mem_flatMap.1 hb
  exact itB_lt z b h
theorem bodyM_lt (M : MsgV) : ∀ b ∈ bodyM M, b < 256 := by
  cases M with
  | hello a b => exact nsB_lt _
  | grant a b c => exact nsB_lt _
  | ask x => exact app_lt (app_lt (app_lt (app_lt (app_lt (nsB_lt _) (tB_lt _)) (n1_lt _)) (n1_lt _)) (n1_lt _)) (itB_lt _)
  | reply x => exact app_lt (app_lt (app_lt (nsB_lt _) (n1_lt _)) (itsB_lt _)) (n1_lt _)
  | stop a b => exact nsB_lt _
  | num k => intro b hb; cases hb
  | none => intro b hb; cases hb
theorem frameM_lt (M : MsgV) : ∀ b ∈ frameM M, b < 256 := sealB_lt _ (app_lt (app_lt (Cod.bytesOf_lt _ _) (Cod.bytesOf_lt _ _)) (bodyM_lt M))
theorem frameM_len (M : MsgV) : (frameM M).length = (bodyM M).length + 7 := frameB_len _ _
def EncM (w : World) (M : MsgV) (e : Ending) (w' : World) : Prop :=
  (mayM M = true ∧ EncP w (frameM M) (frameM M).length e w') ∨ (mayM M = false ∧ e = .returned (.tuple #[.slice .none 0 0, .int .i64 2]) ∧ Below w.heap.size w w')
theorem encode_all (M : MsgV) (w : World) (hh : heldM w M) (hs : smallM M) : Calls Try.prog 14 #[valM M] w (EncM w M) := by
  cases hm : mayM M
  · refine (encode_no (valM M) w (fun w' hb => hm ▸ valid_all M w' (hh.below hb) hs)).mono ?_
    rintro e w' ⟨he, hb⟩
    exact Or.inr ⟨hm, he, hb⟩
  · refine (encode_yes (valM M) (frameM M) _ w (frameM_lt M) rfl (fun w' hb => hm ▸ valid_all M w' (hh.below hb) hs) (fun w' hb => frame_all M w' (hh.below hb) hs hm)).mono ?_
    intro e w' h
    exact Or.inl ⟨hm, h⟩
theorem mayOf_all (M : MsgV) (w : World) (hh : heldM w M) (hs : smallM M) : Calls Try.prog 19 #[valM M] w fun e w' => e = .returned (.bool (mayM M)) ∧ Below w.heap.size w w' :=
  may_of _ _ w (valid_all M w hh hs)
theorem kind_all (M : MsgV) (w : World) : Calls Try.prog 21 #[valM M] w fun e w' => e = .returned (.int .i64 (kindM M : Int)) ∧ w = w' := kind_of _ _ w (kindOf_all M w)
end Go.Proofs.Ythboiklcjpnhbaa
