/- the document's Seal (split from Pk4) -/
import Derived.Test.YthboiklcjpnhbaaPk2
import Derived.Test.YthboiklcjpnhbaaSh2
import Derived.Test.YthboiklcjpnhbaaCd2
namespace Go.Proofs.Ythboiklcjpnhbaa
open Go.RowKit
set_option linter.unusedVariables false
set_option maxRecDepth 20000
theorem rSeal_any (a : Option Addr) (n cap : Nat) (bs : List Nat) (w : World) (h : HoldsB w a n bs) (hnil : a = none → n = 0 ∧ cap = 0) (hn : n ≤ 524288) :
    Calls Try.prog 38 #[.slice a n cap] w (RetB 5 w (sealB bs)) := by
  have CS := Lib.hid (rsumOf_any a n cap bs w h (by omega))
  obtain ⟨c, hc⟩ : ∃ c, Crc.sum bs = c := ⟨_, rfl⟩
  have hc32 : c < 4294967296 := by rw [← hc]; exact sum_lt9 bs
  have CP := Lib.hid (rput_any a n cap bs (c : Int) 4 w h hnil hn)
  rw [bits_nat9 c (by omega), show sizeV 4 = 4 from rfl] at CP
  unfold sealB
  rw [hc] at CS ⊢
  obtain ⟨o, ho⟩ : ∃ o, bs ++ Cod.bytesOf c 4 = o := ⟨_, rfl⟩
  rw [ho] at CP ⊢
  clear h hnil hc ho
  go_enter Try.func38, Try.ntmps38
  go_wp2_with fail
  with_reducible refine CS.out.mono ?_
  rintro e w' ⟨rfl, rfl⟩
  go_wp2_with fail
  with_reducible refine CP.out.mono ?_
  rintro e w' ⟨a2, c2, rfl, h1, h2, h3⟩
  have O := Lib.hid h1; have B := Lib.hid h2; have N := Lib.hid h3
  clear h1 h2 h3 CS CP
  go_wp2_with fail
  go_ret
  exact ⟨a2, c2, rfl, O.out, B.out, N.out⟩
end Go.Proofs.Ythboiklcjpnhbaa
