/- pack: what an image is; Seal, magic, finalByte -/
import Derived.Test.YthboiklcjpnhbaaCd1
import Derived.Test.YthboiklcjpnhbaaSh1
namespace Go.Proofs.Ythboiklcjpnhbaa
open Go.RowKit
set_option linter.unusedVariables false
set_option maxRecDepth 20000
/-- bytes with their sum behind -/
def sealB (bs : List Nat) : List Nat := bs ++ Cod.bytesOf (Crc.sum bs) 4
theorem bits_nat9 (n : Nat) (h : n < 18446744073709551616) : bitsV (n : Int) = n := by
  have := u64_bd (n : Int)
  unfold bitsV
  rw [show IntKind.u64.wrap (n : Int) = (n : Int) by simp only [IntKind.wrap, IntKind.signed, IntKind.bits]; simp; omega]
  omega
theorem sum_lt9 (bs : List Nat) : Crc.sum bs < 4294967296 := Crc.add_lt 0 bs
theorem sealB_len (bs : List Nat) : (sealB bs).length = bs.length + 4 := by rw [sealB, List.length_append, Cod.bytesOf_length]
theorem sealB_lt (bs : List Nat) (h : ∀ b ∈ bs, b < 256) : ∀ b ∈ sealB bs, b < 256 := fun b hb => by
  rcases List.mem_append.1 hb with hb | hb
  · exact h b hb
  · exact Cod.bytesOf_lt _ _ b hb
theorem wSeal_any (a : Option Addr) (n cap : Nat) (bs : List Nat) (w : World) (h : HoldsB w a n bs) (hnil : a = none → n = 0 ∧ cap = 0) (hn : n ≤ 524288) :
    Calls Try.prog 65 #[.slice a n cap] w (RetB 5 w (sealB bs)) := by
  have CS := Lib.hid (sumOf_any a n cap bs w h (by omega))
  obtain ⟨c, hc⟩ : ∃ c, Crc.sum bs = c := ⟨_, rfl⟩
  have hc32 : c < 4294967296 := by rw [← hc]; exact sum_lt9 bs
  have CP := Lib.hid (put_any a n cap bs (c : Int) 4 w h hnil hn)
  rw [bits_nat9 c (by omega), show sizeV 4 = 4 from rfl] at CP
  unfold sealB
  rw [hc] at CS ⊢
  obtain ⟨o, ho⟩ : ∃ o, bs ++ Cod.bytesOf c 4 = o := ⟨_, rfl⟩
  rw [ho] at CP ⊢
  clear h hnil hc ho
  go_enter Try.func65, Try.ntmps65
  go_wp2_with fail
  with_reducible refine CS.out.mono ?_
  rintro e w' ⟨rfl, rfl⟩
  go_wp2_with fail
  with_reducible refine CP.out.mono ?_
  rintro e w' ⟨a2, c2, rfl, h1, h2, h3⟩
  have O := Lib.hid h1; have B := Lib.hid h2; have N := Lib.hid h3
  clear h1 h2 h3 CS CP
  go_wp2_with fail
  go_ret
  exact ⟨a2, c2, rfl, O.out, B.out, N.out⟩
/-- bytes of the call's own that grow -/
def OB (w0 : World) (bs : List Nat) (a : Option Addr) (c : Nat) (w : World) : Prop := w.ownsRow w0.heap.size 5 1 (.slice a bs.length c) bs.length (bytesV bs) ∧ Below w0.heap.size w0 w
theorem OB.more {w0 w w' : World} {bs : List Nat} {a : Option Addr} {c : Nat} (h : OB w0 bs a c w) (hb : Below w.heap.size w w') : OB w0 bs a c w' := ⟨owns_below h.1 hb, h.2.trans (hb.mono h.2.size)⟩
end Go.Proofs.Ythboiklcjpnhbaa
