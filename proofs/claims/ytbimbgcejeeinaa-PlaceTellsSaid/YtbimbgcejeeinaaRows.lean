/-
  No cell of these rows narrows 'for every input' (looked for: loops, veiled, ifaces, maps, wideKeys, modest, calm, conditions, laid).
  DERIVED. THE GIVEN ROWS OF THIS SEAT. 4 by the template 'for every input the law returns true; each argument reads behind the call as it read before'; 0 by the template 'total and deterministic' (their statements: YtbimbgcejeeinaaTotals.lean).
  GIVEN WITH THE SEED: the statements are not yours to turn. If you find one false, say at which input.
  Laid BY PROGRAM, IN A SANDBOX (cutbox-rows.mjs): the forced cells as the released guide's own fill.sh prints them over the translation 81c2035a6177e669… (all of the seat's roots in one cut). By AI agents, Wed Nov 11 2026. No macro, syntax, notation, axiom, sorry.
-/
import Derived.Test.YtbimbgcejeeinaaChecked
import GoSem.Claim
import GoSem.ClaimJoined
import GoSem.ClaimMapViews
import Derived.JoinedTies
import Derived.KernelRfl
namespace Go.Proofs.Ytbimbgcejeeinaa
/- THE CELL 'sum', in the pinned program and in every row, IS THE sha256 OF THE DUMP (.gsa) THAT YtbimbgcejeeinaaProg.lean LOADS. Nothing in Lean hashes anything: it is a label: what it is worth is what the hold of that sum in a sandbox is worth. -/
noncomputable def Try.pinned : Pinned := { name := "ytbimbgcejeeinaa", sum := "81c2035a6177e6692559abcbe06024cf17eafc2a9715f8c399f373ed5220d2bb", checked := Try.checked }
namespace Rows
def none {H : Type} : Left H := { results := [], args := [] }

/-- 'inkhornlaw13.PlaceTells': WHATEVER THE INPUT: true; the input reads as it did. -/
def placeTellsSpec : ChangeSpec := { name := "placeTells", fn := fun _ => fun
  | [d1, d2, d3] => { results := [.lit (.bool true)], args := [d1, d2, d3] }
  | _ => none }
def placeTellsRow : OpenClaim := { program := "ytbimbgcejeeinaa", sum := "81c2035a6177e6692559abcbe06024cf17eafc2a9715f8c399f373ed5220d2bb", func := "inkhorn/inkhornlaw13.PlaceTells", spec := "placeTells", unfollowed := true, recurses := true, apart := false }
def PlaceTellsSaid : Prop := placeTellsRow.holds Try.pinned (OpenSpec.ofChange placeTellsSpec)

/-- ITS FALSE NEIGHBOUR: 'it returns false'. Refute it at one input. -/
def placeTellsWrong : ChangeSpec := { name := "placeTells", fn := fun _ => fun
  | [d1, d2, d3] => { results := [.lit (.bool false)], args := [d1, d2, d3] }
  | _ => none }
def PlaceTellsWrongFalsely : Prop := placeTellsRow.holds Try.pinned (OpenSpec.ofChange placeTellsWrong)

/-- 'inkhornlaw13.PlaceCopies': WHATEVER THE INPUT: true; the input reads as it did. -/
def placeCopiesSpec : ChangeSpec := { name := "placeCopies", fn := fun _ => fun
  | [d] => { results := [.lit (.bool true)], args := [d] }
  | _ => none }
def placeCopiesRow : OpenClaim := { program := "ytbimbgcejeeinaa", sum := "81c2035a6177e6692559abcbe06024cf17eafc2a9715f8c399f373ed5220d2bb", func := "inkhorn/inkhornlaw13.PlaceCopies", spec := "placeCopies", unfollowed := true, recurses := true, apart := false }
def PlaceCopiesSaid : Prop := placeCopiesRow.holds Try.pinned (OpenSpec.ofChange placeCopiesSpec)

/-- ITS FALSE NEIGHBOUR: 'it returns false'. Refute it at one input. -/
def placeCopiesWrong : ChangeSpec := { name := "placeCopies", fn := fun _ => fun
  | [d] => { results := [.lit (.bool false)], args := [d] }
  | _ => none }
def PlaceCopiesWrongFalsely : Prop := placeCopiesRow.holds Try.pinned (OpenSpec.ofChange placeCopiesWrong)

/-- 'inkhornlaw13.PlaceSpread': WHATEVER THE INPUT: true; the input reads as it did. -/
def placeSpreadSpec : ChangeSpec := { name := "placeSpread", fn := fun _ => fun
  | [d1, d2] => { results := [.lit (.bool true)], args := [d1, d2] }
  | _ => none }
def placeSpreadRow : OpenClaim := { program := "ytbimbgcejeeinaa", sum := "81c2035a6177e6692559abcbe06024cf17eafc2a9715f8c399f373ed5220d2bb", func := "inkhorn/inkhornlaw13.PlaceSpread", spec := "placeSpread", apart := false }
def PlaceSpreadSaid : Prop := placeSpreadRow.holds Try.pinned (OpenSpec.ofChange placeSpreadSpec)

/-- ITS FALSE NEIGHBOUR: 'it returns false'. Refute it at one input. -/
def placeSpreadWrong : ChangeSpec := { name := "placeSpread", fn := fun _ => fun
  | [d1, d2] => { results := [.lit (.bool false)], args := [d1, d2] }
  | _ => none }
def PlaceSpreadWrongFalsely : Prop := placeSpreadRow.holds Try.pinned (OpenSpec.ofChange placeSpreadWrong)

/-- 'inkhornlaw13.PlaceImages': WHATEVER THE INPUT: true; the input reads as it did. -/
def placeImagesSpec : ChangeSpec := { name := "placeImages", fn := fun _ => fun
  | [d] => { results := [.lit (.bool true)], args := [d] }
  | _ => none }
def placeImagesRow : OpenClaim := { program := "ytbimbgcejeeinaa", sum := "81c2035a6177e6692559abcbe06024cf17eafc2a9715f8c399f373ed5220d2bb", func := "inkhorn/inkhornlaw13.PlaceImages", spec := "placeImages", inPlace := ["internal/abi.NoEscape"], unfollowed := true, recurses := true, apart := false }
def PlaceImagesSaid : Prop := placeImagesRow.holds Try.pinned (OpenSpec.ofChange placeImagesSpec)

/-- ITS FALSE NEIGHBOUR: 'it returns false'. Refute it at one input. -/
def placeImagesWrong : ChangeSpec := { name := "placeImages", fn := fun _ => fun
  | [d] => { results := [.lit (.bool false)], args := [d] }
  | _ => none }
def PlaceImagesWrongFalsely : Prop := placeImagesRow.holds Try.pinned (OpenSpec.ofChange placeImagesWrong)

/- THE SECOND FORM. 'bulk': how many values and letters a reading holds, each counted each time it is reached (what is shared counts as often as it is met; a slice's spare places count too). A statement '..UptoSaid' is the law's where the arguments, and the package variables that the reading takes, are together of bulk at most 1048576: NARROWER than '..Said'. Prove '..Said' where nothing that the law and all that it calls make is longer than what came in: it says more and counts as full. Else prove '..UptoSaid'. A law counts once. -/
mutual
def uptoBulk {H : Type} : DataW H → Nat
  | .lit (.string bytes) => bytes.length + 1
  | .lit _ => 1
  | .nil => 1
  | .ptr d => uptoBulk d + 1
  | .slice elems spare => uptoBulkAll elems + uptoBulkAll spare + 1
  | .agg parts => uptoBulkAll parts + 1
  | .iface _ d => uptoBulk d + 1
  | .map entries => uptoBulkEntries entries + 1
  | .held _ => 1
def uptoBulkAll {H : Type} : List (DataW H) → Nat
  | [] => 0
  | d :: r => uptoBulk d + uptoBulkAll r
def uptoBulkEntries {H : Type} : List (Lit × DataW H) → Nat
  | [] => 0
  | x :: r => uptoBulkEntry x + uptoBulkEntries r
def uptoBulkEntry {H : Type} : Lit × DataW H → Nat
  | (.string bytes, d) => bytes.length + uptoBulk d + 1
  | (_, d) => uptoBulk d + 1
 end
def uptoSmall : (H : Type) → List (DataW H) → Bool := fun _ ds => decide (uptoBulkAll ds ≤ 1048576)
def OpenSpec.upto (s : _root_.Go.ChangeSpec) : _root_.Go.OpenSpec := { _root_.Go.OpenSpec.ofChange s with cond := some uptoSmall }

/-- 'inkhornlaw13.PlaceTells', WHERE WHAT IT READS IS OF BULK AT MOST 1048576: true; the input reads as it did. -/
def placeTellsUptoRow : OpenClaim := { program := "ytbimbgcejeeinaa", sum := "81c2035a6177e6692559abcbe06024cf17eafc2a9715f8c399f373ed5220d2bb", func := "inkhorn/inkhornlaw13.PlaceTells", spec := "placeTells", unfollowed := true, recurses := true, apart := false, narrowed := true }
def PlaceTellsUptoSaid : Prop := placeTellsUptoRow.holds Try.pinned (OpenSpec.upto placeTellsSpec)

/-- 'inkhornlaw13.PlaceCopies', WHERE WHAT IT READS IS OF BULK AT MOST 1048576: true; the input reads as it did. -/
def placeCopiesUptoRow : OpenClaim := { program := "ytbimbgcejeeinaa", sum := "81c2035a6177e6692559abcbe06024cf17eafc2a9715f8c399f373ed5220d2bb", func := "inkhorn/inkhornlaw13.PlaceCopies", spec := "placeCopies", unfollowed := true, recurses := true, apart := false, narrowed := true }
def PlaceCopiesUptoSaid : Prop := placeCopiesUptoRow.holds Try.pinned (OpenSpec.upto placeCopiesSpec)

/-- 'inkhornlaw13.PlaceSpread', WHERE WHAT IT READS IS OF BULK AT MOST 1048576: true; the input reads as it did. -/
def placeSpreadUptoRow : OpenClaim := { program := "ytbimbgcejeeinaa", sum := "81c2035a6177e6692559abcbe06024cf17eafc2a9715f8c399f373ed5220d2bb", func := "inkhorn/inkhornlaw13.PlaceSpread", spec := "placeSpread", apart := false, narrowed := true }
def PlaceSpreadUptoSaid : Prop := placeSpreadUptoRow.holds Try.pinned (OpenSpec.upto placeSpreadSpec)

/-- 'inkhornlaw13.PlaceImages', WHERE WHAT IT READS IS OF BULK AT MOST 1048576: true; the input reads as it did. -/
def placeImagesUptoRow : OpenClaim := { program := "ytbimbgcejeeinaa", sum := "81c2035a6177e6692559abcbe06024cf17eafc2a9715f8c399f373ed5220d2bb", func := "inkhorn/inkhornlaw13.PlaceImages", spec := "placeImages", inPlace := ["internal/abi.NoEscape"], unfollowed := true, recurses := true, apart := false, narrowed := true }
def PlaceImagesUptoSaid : Prop := placeImagesUptoRow.holds Try.pinned (OpenSpec.upto placeImagesSpec)

end Rows
end Go.Proofs.Ytbimbgcejeeinaa
