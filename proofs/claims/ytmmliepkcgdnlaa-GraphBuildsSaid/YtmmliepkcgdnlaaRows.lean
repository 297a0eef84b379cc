/-
  No cell of these rows narrows 'for every input' (looked for: loops, veiled, ifaces, maps, wideKeys, modest, calm, conditions, laid).
  DERIVED. THE GIVEN ROWS OF THIS SEAT. 8 by the template 'for every input the law returns true; each argument reads behind the call as it read before'; 0 by the template 'total and deterministic' (their statements: YtmmliepkcgdnlaaTotals.lean).
  GIVEN WITH THE SEED: the statements are not yours to turn. If you find one false, say at which input.
  Laid BY PROGRAM, IN A SANDBOX (cutbox-rows.mjs): the forced cells as the released guide's own fill.sh prints them over the translation e9dbf410c54cb512… (all of the seat's roots in one cut). By AI agents, Wed Nov 11 2026. No macro, syntax, notation, axiom, sorry.
-/
import Derived.Test.YtmmliepkcgdnlaaChecked
import GoSem.Claim
import GoSem.ClaimJoined
import GoSem.ClaimMapViews
import Derived.JoinedTies
import Derived.KernelRfl
namespace Go.Proofs.Ytmmliepkcgdnlaa
/- THE CELL 'sum', in the pinned program and in every row, IS THE sha256 OF THE DUMP (.gsa) THAT YtmmliepkcgdnlaaProg.lean LOADS. Nothing in Lean hashes anything: it is a label: what it is worth is what the hold of that sum in a sandbox is worth. -/
noncomputable def Try.pinned : Pinned := { name := "ytmmliepkcgdnlaa", sum := "e9dbf410c54cb512e5aa5d5535b263bcfb9189b914bb40286c39d90a7d41f26b", checked := Try.checked }
namespace Rows
def none {H : Type} : Left H := { results := [], args := [] }

/-- 'inkhornlaw8.GraphBuilds': WHATEVER THE INPUT: true; the input reads as it did. -/
def graphBuildsSpec : ChangeSpec := { name := "graphBuilds", fn := fun _ => fun
  | [d] => { results := [.lit (.bool true)], args := [d] }
  | _ => none }
def graphBuildsRow : OpenClaim := { program := "ytmmliepkcgdnlaa", sum := "e9dbf410c54cb512e5aa5d5535b263bcfb9189b914bb40286c39d90a7d41f26b", func := "inkhorn/inkhornlaw8.GraphBuilds", spec := "graphBuilds", recurses := true, apart := false }
def GraphBuildsSaid : Prop := graphBuildsRow.holds Try.pinned (OpenSpec.ofChange graphBuildsSpec)

/-- ITS FALSE NEIGHBOUR: 'it returns false'. Refute it at one input. -/
def graphBuildsWrong : ChangeSpec := { name := "graphBuilds", fn := fun _ => fun
  | [d] => { results := [.lit (.bool false)], args := [d] }
  | _ => none }
def GraphBuildsWrongFalsely : Prop := graphBuildsRow.holds Try.pinned (OpenSpec.ofChange graphBuildsWrong)

/-- 'inkhornlaw8.GraphAsks': WHATEVER THE INPUT: true; the input reads as it did. -/
def graphAsksSpec : ChangeSpec := { name := "graphAsks", fn := fun _ => fun
  | [d1, d2, d3, d4, d5] => { results := [.lit (.bool true)], args := [d1, d2, d3, d4, d5] }
  | _ => none }
def graphAsksRow : OpenClaim := { program := "ytmmliepkcgdnlaa", sum := "e9dbf410c54cb512e5aa5d5535b263bcfb9189b914bb40286c39d90a7d41f26b", func := "inkhorn/inkhornlaw8.GraphAsks", spec := "graphAsks", unfollowed := true, recurses := true, apart := false }
def GraphAsksSaid : Prop := graphAsksRow.holds Try.pinned (OpenSpec.ofChange graphAsksSpec)

/-- ITS FALSE NEIGHBOUR: 'it returns false'. Refute it at one input. -/
def graphAsksWrong : ChangeSpec := { name := "graphAsks", fn := fun _ => fun
  | [d1, d2, d3, d4, d5] => { results := [.lit (.bool false)], args := [d1, d2, d3, d4, d5] }
  | _ => none }
def GraphAsksWrongFalsely : Prop := graphAsksRow.holds Try.pinned (OpenSpec.ofChange graphAsksWrong)

/-- 'inkhornlaw8.GraphLeast': WHATEVER THE INPUT: true; the input reads as it did. -/
def graphLeastSpec : ChangeSpec := { name := "graphLeast", fn := fun _ => fun
  | [d] => { results := [.lit (.bool true)], args := [d] }
  | _ => none }
def graphLeastRow : OpenClaim := { program := "ytmmliepkcgdnlaa", sum := "e9dbf410c54cb512e5aa5d5535b263bcfb9189b914bb40286c39d90a7d41f26b", func := "inkhorn/inkhornlaw8.GraphLeast", spec := "graphLeast", inPlace := ["internal/abi.NoEscape"], recurses := true, apart := false }
def GraphLeastSaid : Prop := graphLeastRow.holds Try.pinned (OpenSpec.ofChange graphLeastSpec)

/-- ITS FALSE NEIGHBOUR: 'it returns false'. Refute it at one input. -/
def graphLeastWrong : ChangeSpec := { name := "graphLeast", fn := fun _ => fun
  | [d] => { results := [.lit (.bool false)], args := [d] }
  | _ => none }
def GraphLeastWrongFalsely : Prop := graphLeastRow.holds Try.pinned (OpenSpec.ofChange graphLeastWrong)

/-- 'inkhornlaw8.GraphPieces': WHATEVER THE INPUT: true; the input reads as it did. -/
def graphPiecesSpec : ChangeSpec := { name := "graphPieces", fn := fun _ => fun
  | [d1, d2, d3, d4] => { results := [.lit (.bool true)], args := [d1, d2, d3, d4] }
  | _ => none }
def graphPiecesRow : OpenClaim := { program := "ytmmliepkcgdnlaa", sum := "e9dbf410c54cb512e5aa5d5535b263bcfb9189b914bb40286c39d90a7d41f26b", func := "inkhorn/inkhornlaw8.GraphPieces", spec := "graphPieces", unfollowed := true, recurses := true, apart := false }
def GraphPiecesSaid : Prop := graphPiecesRow.holds Try.pinned (OpenSpec.ofChange graphPiecesSpec)

/-- ITS FALSE NEIGHBOUR: 'it returns false'. Refute it at one input. -/
def graphPiecesWrong : ChangeSpec := { name := "graphPieces", fn := fun _ => fun
  | [d1, d2, d3, d4] => { results := [.lit (.bool false)], args := [d1, d2, d3, d4] }
  | _ => none }
def GraphPiecesWrongFalsely : Prop := graphPiecesRow.holds Try.pinned (OpenSpec.ofChange graphPiecesWrong)

/-- 'inkhornlaw8.GraphNone': WHATEVER THE INPUT: true; the input reads as it did. -/
def graphNoneSpec : ChangeSpec := { name := "graphNone", fn := fun _ => fun
  | [d1, d2, d3] => { results := [.lit (.bool true)], args := [d1, d2, d3] }
  | _ => none }
def graphNoneRow : OpenClaim := { program := "ytmmliepkcgdnlaa", sum := "e9dbf410c54cb512e5aa5d5535b263bcfb9189b914bb40286c39d90a7d41f26b", func := "inkhorn/inkhornlaw8.GraphNone", spec := "graphNone", unfollowed := true, recurses := true, apart := false }
def GraphNoneSaid : Prop := graphNoneRow.holds Try.pinned (OpenSpec.ofChange graphNoneSpec)

/-- ITS FALSE NEIGHBOUR: 'it returns false'. Refute it at one input. -/
def graphNoneWrong : ChangeSpec := { name := "graphNone", fn := fun _ => fun
  | [d1, d2, d3] => { results := [.lit (.bool false)], args := [d1, d2, d3] }
  | _ => none }
def GraphNoneWrongFalsely : Prop := graphNoneRow.holds Try.pinned (OpenSpec.ofChange graphNoneWrong)

/-- 'inkhornlaw8.GraphPaths': WHATEVER THE INPUT: true; the input reads as it did. -/
def graphPathsSpec : ChangeSpec := { name := "graphPaths", fn := fun _ => fun
  | [d1, d2] => { results := [.lit (.bool true)], args := [d1, d2] }
  | _ => none }
def graphPathsRow : OpenClaim := { program := "ytmmliepkcgdnlaa", sum := "e9dbf410c54cb512e5aa5d5535b263bcfb9189b914bb40286c39d90a7d41f26b", func := "inkhorn/inkhornlaw8.GraphPaths", spec := "graphPaths", unfollowed := true, recurses := true, apart := false }
def GraphPathsSaid : Prop := graphPathsRow.holds Try.pinned (OpenSpec.ofChange graphPathsSpec)

/-- ITS FALSE NEIGHBOUR: 'it returns false'. Refute it at one input. -/
def graphPathsWrong : ChangeSpec := { name := "graphPaths", fn := fun _ => fun
  | [d1, d2] => { results := [.lit (.bool false)], args := [d1, d2] }
  | _ => none }
def GraphPathsWrongFalsely : Prop := graphPathsRow.holds Try.pinned (OpenSpec.ofChange graphPathsWrong)

/-- 'inkhornlaw8.GraphOne': WHATEVER THE INPUT: true; the input reads as it did. -/
def graphOneSpec : ChangeSpec := { name := "graphOne", fn := fun _ => fun
  | [d] => { results := [.lit (.bool true)], args := [d] }
  | _ => none }
def graphOneRow : OpenClaim := { program := "ytmmliepkcgdnlaa", sum := "e9dbf410c54cb512e5aa5d5535b263bcfb9189b914bb40286c39d90a7d41f26b", func := "inkhorn/inkhornlaw8.GraphOne", spec := "graphOne", recurses := true, apart := false }
def GraphOneSaid : Prop := graphOneRow.holds Try.pinned (OpenSpec.ofChange graphOneSpec)

/-- ITS FALSE NEIGHBOUR: 'it returns false'. Refute it at one input. -/
def graphOneWrong : ChangeSpec := { name := "graphOne", fn := fun _ => fun
  | [d] => { results := [.lit (.bool false)], args := [d] }
  | _ => none }
def GraphOneWrongFalsely : Prop := graphOneRow.holds Try.pinned (OpenSpec.ofChange graphOneWrong)

/-- 'inkhornlaw8.GraphPut': WHATEVER THE INPUT: true; the input reads as it did. -/
def graphPutSpec : ChangeSpec := { name := "graphPut", fn := fun _ => fun
  | [d1, d2] => { results := [.lit (.bool true)], args := [d1, d2] }
  | _ => none }
def graphPutRow : OpenClaim := { program := "ytmmliepkcgdnlaa", sum := "e9dbf410c54cb512e5aa5d5535b263bcfb9189b914bb40286c39d90a7d41f26b", func := "inkhorn/inkhornlaw8.GraphPut", spec := "graphPut", unfollowed := true, recurses := true, apart := false }
def GraphPutSaid : Prop := graphPutRow.holds Try.pinned (OpenSpec.ofChange graphPutSpec)

/-- ITS FALSE NEIGHBOUR: 'it returns false'. Refute it at one input. -/
def graphPutWrong : ChangeSpec := { name := "graphPut", fn := fun _ => fun
  | [d1, d2] => { results := [.lit (.bool false)], args := [d1, d2] }
  | _ => none }
def GraphPutWrongFalsely : Prop := graphPutRow.holds Try.pinned (OpenSpec.ofChange graphPutWrong)

/- THE SECOND FORM. 'bulk': how many values and letters a reading holds, each counted each time it is reached (what is shared counts as often as it is met; a slice's spare places count too). A statement '..UptoSaid' is the law's where the arguments, and the package variables that the reading takes, are together of bulk at most 1048576: NARROWER than '..Said'. Prove '..Said' where nothing that the law and all that it calls make is longer than what came in: it says more and counts as full. Else prove '..UptoSaid'. A law counts once. -/
mutual
def uptoBulk {H : Type} : DataW H → Nat
  | .lit (.string bytes) => bytes.length + 1
  | .lit _ => 1
  | .nil => 1
  | .ptr d => uptoBulk d + 1
  | .slice elems spare => uptoBulkAll elems + uptoBulkAll spare + 1
  | .agg parts => uptoBulkAll parts + 1
  | .iface _ d => uptoBulk d + 1
  | .map entries => uptoBulkEntries entries + 1
  | .held _ => 1
def uptoBulkAll {H : Type} : List (DataW H) → Nat
  | [] => 0
  | d :: r => uptoBulk d + uptoBulkAll r
def uptoBulkEntries {H : Type} : List (Lit × DataW H) → Nat
  | [] => 0
  | x :: r => uptoBulkEntry x + uptoBulkEntries r
def uptoBulkEntry {H : Type} : Lit × DataW H → Nat
  | (.string bytes, d) => bytes.length + uptoBulk d + 1
  | (_, d) => uptoBulk d + 1
 end
def uptoSmall : (H : Type) → List (DataW H) → Bool := fun _ ds => decide (uptoBulkAll ds ≤ 1048576)
def OpenSpec.upto (s : _root_.Go.ChangeSpec) : _root_.Go.OpenSpec := { _root_.Go.OpenSpec.ofChange s with cond := some uptoSmall }

/-- 'inkhornlaw8.GraphBuilds', WHERE WHAT IT READS IS OF BULK AT MOST 1048576: true; the input reads as it did. -/
def graphBuildsUptoRow : OpenClaim := { program := "ytmmliepkcgdnlaa", sum := "e9dbf410c54cb512e5aa5d5535b263bcfb9189b914bb40286c39d90a7d41f26b", func := "inkhorn/inkhornlaw8.GraphBuilds", spec := "graphBuilds", recurses := true, apart := false, narrowed := true }
def GraphBuildsUptoSaid : Prop := graphBuildsUptoRow.holds Try.pinned (OpenSpec.upto graphBuildsSpec)

/-- 'inkhornlaw8.GraphAsks', WHERE WHAT IT READS IS OF BULK AT MOST 1048576: true; the input reads as it did. -/
def graphAsksUptoRow : OpenClaim := { program := "ytmmliepkcgdnlaa", sum := "e9dbf410c54cb512e5aa5d5535b263bcfb9189b914bb40286c39d90a7d41f26b", func := "inkhorn/inkhornlaw8.GraphAsks", spec := "graphAsks", unfollowed := true, recurses := true, apart := false, narrowed := true }
def GraphAsksUptoSaid : Prop := graphAsksUptoRow.holds Try.pinned (OpenSpec.upto graphAsksSpec)

/-- 'inkhornlaw8.GraphLeast', WHERE WHAT IT READS IS OF BULK AT MOST 1048576: true; the input reads as it did. -/
def graphLeastUptoRow : OpenClaim := { program := "ytmmliepkcgdnlaa", sum := "e9dbf410c54cb512e5aa5d5535b263bcfb9189b914bb40286c39d90a7d41f26b", func := "inkhorn/inkhornlaw8.GraphLeast", spec := "graphLeast", inPlace := ["internal/abi.NoEscape"], recurses := true, apart := false, narrowed := true }
def GraphLeastUptoSaid : Prop := graphLeastUptoRow.holds Try.pinned (OpenSpec.upto graphLeastSpec)

/-- 'inkhornlaw8.GraphPieces', WHERE WHAT IT READS IS OF BULK AT MOST 1048576: true; the input reads as it did. -/
def graphPiecesUptoRow : OpenClaim := { program := "ytmmliepkcgdnlaa", sum := "e9dbf410c54cb512e5aa5d5535b263bcfb9189b914bb40286c39d90a7d41f26b", func := "inkhorn/inkhornlaw8.GraphPieces", spec := "graphPieces", unfollowed := true, recurses := true, apart := false, narrowed := true }
def GraphPiecesUptoSaid : Prop := graphPiecesUptoRow.holds Try.pinned (OpenSpec.upto graphPiecesSpec)

/-- 'inkhornlaw8.GraphNone', WHERE WHAT IT READS IS OF BULK AT MOST 1048576: true; the input reads as it did. -/
def graphNoneUptoRow : OpenClaim := { program := "ytmmliepkcgdnlaa", sum := "e9dbf410c54cb512e5aa5d5535b263bcfb9189b914bb40286c39d90a7d41f26b", func := "inkhorn/inkhornlaw8.GraphNone", spec := "graphNone", unfollowed := true, recurses := true, apart := false, narrowed := true }
def GraphNoneUptoSaid : Prop := graphNoneUptoRow.holds Try.pinned (OpenSpec.upto graphNoneSpec)

/-- 'inkhornlaw8.GraphPaths', WHERE WHAT IT READS IS OF BULK AT MOST 1048576: true; the input reads as it did. -/
def graphPathsUptoRow : OpenClaim := { program := "ytmmliepkcgdnlaa", sum := "e9dbf410c54cb512e5aa5d5535b263bcfb9189b914bb40286c39d90a7d41f26b", func := "inkhorn/inkhornlaw8.GraphPaths", spec := "graphPaths", unfollowed := true, recurses := true, apart := false, narrowed := true }
def GraphPathsUptoSaid : Prop := graphPathsUptoRow.holds Try.pinned (OpenSpec.upto graphPathsSpec)

/-- 'inkhornlaw8.GraphOne', WHERE WHAT IT READS IS OF BULK AT MOST 1048576: true; the input reads as it did. -/
def graphOneUptoRow : OpenClaim := { program := "ytmmliepkcgdnlaa", sum := "e9dbf410c54cb512e5aa5d5535b263bcfb9189b914bb40286c39d90a7d41f26b", func := "inkhorn/inkhornlaw8.GraphOne", spec := "graphOne", recurses := true, apart := false, narrowed := true }
def GraphOneUptoSaid : Prop := graphOneUptoRow.holds Try.pinned (OpenSpec.upto graphOneSpec)

/-- 'inkhornlaw8.GraphPut', WHERE WHAT IT READS IS OF BULK AT MOST 1048576: true; the input reads as it did. -/
def graphPutUptoRow : OpenClaim := { program := "ytmmliepkcgdnlaa", sum := "e9dbf410c54cb512e5aa5d5535b263bcfb9189b914bb40286c39d90a7d41f26b", func := "inkhorn/inkhornlaw8.GraphPut", spec := "graphPut", unfollowed := true, recurses := true, apart := false, narrowed := true }
def GraphPutUptoSaid : Prop := graphPutUptoRow.holds Try.pinned (OpenSpec.upto graphPutSpec)

end Rows
end Go.Proofs.Ytmmliepkcgdnlaa
