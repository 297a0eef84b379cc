/- the law that a sum is the document's -/
import Derived.Test.YtncblednmkmjmaaSa
import Derived.Test.YtncblednmkmjmaaSr
import Derived.Test.YtncblednmkmjmaaLendBytes
import Derived.Test.YtncblednmkmjmaaKeptBytes
namespace Go.Proofs.Ytncblednmkmjmaa
open Go.RowKit
set_option linter.unusedVariables false
/-- the bytes as values -/
def bytesV (bs : List Nat) : List Value := (bs.map fun b : Nat => (b : Int)).map (Value.int .u8)
theorem HoldsB.values {w : World} {a : Option Addr} {n : Nat} {bs : List Nat} (h : HoldsB w a n bs) : HoldsV w a n (bytesV bs) := h.1.values
theorem bytesV_one (bs : List Nat) : ∀ u ∈ bytesV bs, u.oneCell' = true := ints_oneCell _ _
theorem roomy_bytes {w : World} {B : Nat} {e : TypeId} {mark : Value} {n k : Nat} {bs : List Nat} (hl : bs.length = n) (hb : ∀ b ∈ bs, b < 256) (h : Roomy w B e mark n (bytesV bs) k) : HoldsB w (some ⟨B, 0, none⟩) n bs :=
  ⟨⟨by simpa using hl, fun _ => ⟨B, 0, rfl, fun i hi => by rw [Nat.zero_add, h.cell i hi, bytesV, getD_map_int .u8 _ i (by simp [hl]; exact hi)]⟩⟩, hb⟩

set_option maxHeartbeats 400000 in
theorem sumTells_any (a : Option Addr) (n cap : Nat) (bs : List Nat) (w : World) (h : HoldsB w a n bs) (hnil : a = none → n = 0 ∧ cap = 0) (hn : n ≤ 9223372036854775807) :
    Calls Try.prog 3 #[.slice a n cap] w fun e w' => e = .returned (.bool true) ∧ Below w.heap.size w w' := by
  have H := Lib.hid h; have HN := Lib.hid hnil
  clear h hnil
  by_cases hbig : n ≤ 600
  · go_enter Try.func3, Try.ntmps3
    go_wp2_with fail
    refine (lendBytes_any a n cap (bytesV bs) _ H.out.values HN.out (by omega) (bytesV_one bs)).mono ?_
    rintro e w1 ⟨rfl, hb1, hR⟩
    have h1 := roomy_bytes H.out.len H.out.2 hR
    have h2 := H.out.below hb1
    have HR := Lib.hid hR; have H1 := Lib.hid h1; have H2 := Lib.hid h2; have B1 := Lib.hid hb1
    clear hR h1 h2 hb1
    go_wp2_with fail
    refine (of_any _ n _ bs _ H1.out (by omega)).mono ?_
    rintro e w' ⟨rfl, rfl⟩
    go_wp2_with fail
    refine (rof_any _ n _ bs _ H2.out (by omega)).mono ?_
    rintro e w' ⟨rfl, rfl⟩
    go_wp2_with fail
    refine (keptBytes_any _ _ n _ _ n _ _ _ (by simpa using H1.out.len) HR.out H2.out.1 (by omega) (by omega)).mono ?_
    rintro e w' ⟨rfl, m, rfl⟩
    rw [decide_eq_true rfl]
    go_wp2_with fail
    refine (awake_any _).mono ?_
    rintro e w' ⟨rfl, hb3⟩
    go_wp2_with fail
    go_ret
    exact ⟨rfl, (B1.out.trans ((below_drewN _ m).mono B1.out.size)).trans (hb3.mono B1.out.size)⟩
  · go_enter Try.func3, Try.ntmps3
    go_wp2_with fail
    refine (awake_any _).mono ?_
    rintro e w' ⟨rfl, hb3⟩
    go_wp2_with fail
    go_ret
    exact ⟨rfl, hb3⟩
end Go.Proofs.Ytncblednmkmjmaa
