/- what every program answers that is one: code -/
import Derived.Test.YtkbiaebjhjdjaaaCd6
import Derived.Test.YtkbiaebjhjdjaaaCd4
import Derived.Test.YtkbiaebjhjdjaaaSameBytes
namespace Go.Proofs.Ytkbiaebjhjdjaaa
open Go.RowKit
set_option linter.unusedVariables false
theorem num_yesI (a : Option Addr) (n cap : Nat) (bs : List Nat) (k s : Nat) (kI sI : Int) (w : World) (h : HoldsB w a n bs) (hn : n ≤ 9223372036854775807) (h1 : 1 ≤ s) (h8 : s ≤ 8) (hk : k + s ≤ n) (ek : kI = k) (es : sI = s) :
    Calls Try.prog 29 #[.slice a n cap, .int .i64 kI, .int .i64 sI] w fun e w' => e = .returned (.tuple #[.int .i64 (wrap64 (numN bs k s : Nat)), .bool true]) ∧ w = w' := by
  subst ek es; exact num_yes a n cap bs k s w h hn h1 h8 hk
theorem cast_inj (xs ys : List Nat) : (xs.map (fun b : Nat => (b : Int)) = ys.map fun b : Nat => (b : Int)) ↔ xs = ys := by
  constructor
  · intro h
    have := congrArg (List.map Int.toNat) h
    simpa [List.map_map, Function.comp_def] using this
  · rintro rfl; rfl
theorem sameB_any (a1 a2 : Option Addr) (n1 c1 n2 c2 : Nat) (x1 x2 : List Nat) (w : World) (h1 : HoldsB w a1 n1 x1) (h2 : HoldsB w a2 n2 x2) (hl1 : n1 ≤ 4611686018427387904) (hl2 : n2 ≤ 4611686018427387904) :
    Calls Try.prog 24 #[.slice a1 n1 c1, .slice a2 n2 c2] w fun e w' => e = .returned (.bool (decide (x1 = x2))) ∧ ∃ m, w' = w.drewN m :=
  (sameBytes_any a1 a2 n1 c1 n2 c2 _ _ w h1.1 h2.1 hl1 hl2).mono fun e w' ⟨he, hw⟩ => ⟨by rw [he]; congr 2; exact decide_eq_decide.2 (cast_inj x1 x2), hw⟩
theorem HoldsB.drewN {w : World} {a : Option Addr} {n : Nat} {bs : List Nat} (h : HoldsB w a n bs) (m : Nat) : HoldsB (w.drewN m) a n bs := h.below (below_drewN w m)
theorem HoldsB.alloc {w : World} {a : Option Addr} {n : Nat} {bs : List Nat} (h : HoldsB w a n bs) (o : Obj) : HoldsB (w.alloc o) a n bs := h.below (below_one w o)
theorem own_holdsB {w : World} {base : Nat} {e : TypeId} {a : Option Addr} {n c : Nat} {bs : List Nat} (h : w.ownsRow base e 1 (.slice a n c) n (bytesV bs)) (hb : ∀ b ∈ bs, b < 256) : HoldsB w a n bs := holdsB_of_values (owns_holds h) hb
set_option maxHeartbeats 800000 in
theorem awake_any (w : World) : Calls Try.prog 20 #[] w fun e w' => e = .returned (.bool true) ∧ Below w.heap.size w w' := by
  go_enter Try.func20, Try.ntmps20
  go_wp2_with fail
  refine (num_yesI _ 3 3 [1, 2, 3] 1 2 _ _ _ (holdsB_lit w [1, 2, 3] 5 (0, 0) (by decide)) (by decide) (by decide) (by decide) (by decide) rfl rfl).mono ?_
  rintro e w' ⟨rfl, rfl⟩
  rw [show ((numN [1, 2, 3] 1 2 : Nat) : Int) = 515 from by decide, IntWalk.wrap64_in 515 ⟨by decide, by decide⟩]
  go_wp2_with fail
  refine (put_any none 0 0 [] 258 2 _ (holdsB_nil _ _) (fun _ => ⟨rfl, rfl⟩) (by omega)).mono ?_
  rintro e w2 ⟨a2, c2, rfl, hown2, hb2, hnil2⟩
  rw [show ([] ++ Cod.bytesOf (bitsV 258) (sizeV 2) : List Nat) = [1, 2] from by decide] at hown2 ⊢
  rw [show ([1, 2] : List Nat).length = 2 from rfl] at hown2 ⊢
  have h2 := (own_holdsB hown2 (by decide)).alloc (.cells #[.int .u8 1, .int .u8 2] 5)
  have B2 := Lib.hid ((below_one w _).trans (hb2.mono (below_one w _).size))
  have H2 := Lib.hid h2
  clear hown2 hb2 hnil2 h2
  go_wp2_with fail
  refine (sameB_any _ _ 2 _ 2 _ _ [1, 2] _ H2.out (holdsB_lit w2 [1, 2] 5 (0, 0) (by decide)) (by decide) (by decide)).mono ?_
  rintro e w' ⟨rfl, m, rfl⟩
  rw [decide_eq_true rfl]
  go_wp2_with fail
  refine (putText_any none 0 0 [] ⟨#[97]⟩ _ (holdsB_nil _ _) (fun _ => ⟨rfl, rfl⟩) (by omega) (by decide)).mono ?_
  rintro e w4 ⟨a4, c4, rfl, hown4, hb4, hnil4⟩
  rw [show putTextV [] ⟨#[97]⟩ = [0, 1, 97] from by decide] at hown4 ⊢
  rw [show ([0, 1, 97] : List Nat).length = 3 from rfl] at hown4 ⊢
  have h4 := (own_holdsB hown4 (by decide)).alloc (.cells #[.int .u8 0, .int .u8 1, .int .u8 97] 5)
  have H4 := Lib.hid h4; have B4 := Lib.hid hb4
  clear hown4 hb4 hnil4 h4
  go_wp2_with fail
  refine (sameB_any _ _ 3 _ 3 _ _ [0, 1, 97] _ H4.out (holdsB_lit w4 [0, 1, 97] 5 (0, 0) (by decide)) (by decide) (by decide)).mono ?_
  rintro e w' ⟨rfl, m4, rfl⟩
  rw [decide_eq_true rfl]
  go_wp2_with fail
  go_ret
  refine ⟨rfl, ?_⟩
  have c1 := B2.out.size
  have e1 : Below w.heap.size w ((w2.alloc (.cells #[.int .u8 1, .int .u8 2] 5)).drewN m) := B2.out.trans (((below_one w2 _).mono c1).trans ((below_drewN _ m).mono (by simp; omega)))
  have c2 := e1.size
  exact (e1.trans (B4.out.mono c2)).trans (((below_one w4 _).mono (by have := B4.out.size; omega)).trans ((below_drewN _ m4).mono (by have := B4.out.size; simp; omega)))
end Go.Proofs.Ytkbiaebjhjdjaaa
