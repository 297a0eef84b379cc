/- what every program answers that is one: code -/
import Derived.Test.YthboiklcjpnhbaaCd6
import Derived.Test.YthboiklcjpnhbaaCd4
import Derived.Test.YthboiklcjpnhbaaSameBytes
namespace Go.Proofs.Ythboiklcjpnhbaa
open Go.RowKit
set_option linter.unusedVariables false
set_option maxRecDepth 20000
theorem num_yesI (a : Option Addr) (n cap : Nat) (bs : List Nat) (k s : Nat) (kI sI : Int) (w : World) (h : HoldsB w a n bs) (hn : n ≤ 9223372036854775807) (h1 : 1 ≤ s) (h8 : s ≤ 8) (hk : k + s ≤ n) (ek : kI = k) (es : sI = s) :
    Calls Try.prog 45 #[.slice a n cap, .int .i64 kI, .int .i64 sI] w fun e w' => e = .returned (.tuple #[.int .i64 (wrap64 (numN bs k s : Nat)), .bool true]) ∧ w = w' := by
  subst ek es; exact num_yes a n cap bs k s w h hn h1 h8 hk
theorem cast_inj (xs ys : List Nat) : (xs.map (fun b : Nat => (b : Int)) = ys.map fun b : Nat => (b : Int)) ↔ xs = ys := by
  constructor
  · intro h
    have := congrArg (List.map Int.toNat) h
    simpa [List.map_map, Function.comp_def] using this
  · rintro rfl; rfl
theorem sameB_any (a1 a2 : Option Addr) (n1 c1 n2 c2 : Nat) (x1 x2 : List Nat) (w : World) (h1 : HoldsB w a1 n1 x1) (h2 : HoldsB w a2 n2 x2) (hl1 : n1 ≤ 4611686018427387904) (hl2 : n2 ≤ 4611686018427387904) :
    Calls Try.prog 17 #[.slice a1 n1 c1, .slice a2 n2 c2] w fun e w' => e = .returned (.bool (decide (x1 = x2))) ∧ ∃ m, w' = w.drewN m :=
  (sameBytes_any a1 a2 n1 c1 n2 c2 _ _ w h1.1 h2.1 hl1 hl2).mono fun e w' ⟨he, hw⟩ => ⟨by rw [he]; congr 2; exact decide_eq_decide.2 (cast_inj x1 x2), hw⟩
theorem HoldsB.drewN {w : World} {a : Option Addr} {n : Nat} {bs : List Nat} (h : HoldsB w a n bs) (m : Nat) : HoldsB (w.drewN m) a n bs := h.below (below_drewN w m)
theorem HoldsB.alloc {w : World} {a : Option Addr} {n : Nat} {bs : List Nat} (h : HoldsB w a n bs) (o : Obj) : HoldsB (w.alloc o) a n bs := h.below (below_one w o)
theorem own_holdsB {w : World} {base : Nat} {e : TypeId} {a : Option Addr} {n c : Nat} {bs : List Nat} (h : w.ownsRow base e 1 (.slice a n c) n (bytesV bs)) (hb : ∀ b ∈ bs, b < 256) : HoldsB w a n bs := holdsB_of_values (owns_holds h) hb
end Go.Proofs.Ythboiklcjpnhbaa
