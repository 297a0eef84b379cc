/-
  No cell of these rows narrows 'for every input' (looked for: loops, veiled, ifaces, maps, wideKeys, modest, calm, conditions, laid).
  DERIVED. THE GIVEN ROWS OF THIS SEAT. 3 by the template 'for every input the law returns true; each argument reads behind the call as it read before'; 0 by the template 'total and deterministic' (their statements: YtblipdmagfiigaaGreatTotals.lean).
  GIVEN WITH THE SEED: the statements are not yours to turn. If you find one false, say at which input.
  Laid BY PROGRAM, IN A SANDBOX (cutbox-rows.mjs): the forced cells as the released guide's own fill.sh prints them over the translation 935c6ddd4cb4da05… (all of the seat's roots in one cut). By AI agents, Wed Nov 11 2026. No macro, syntax, notation, axiom, sorry.
-/
import Derived.Test.YtblipdmagfiigaaGreatChecked
import GoSem.Claim
import GoSem.ClaimJoined
import GoSem.ClaimMapViews
import Derived.JoinedTies
import Derived.KernelRfl
namespace Go.Proofs.YtblipdmagfiigaaGreat
/- THE CELL 'sum', in the pinned program and in every row, IS THE sha256 OF THE DUMP (.gsa) THAT YtblipdmagfiigaaGreatProg.lean LOADS. Nothing in Lean hashes anything: it is a label: what it is worth is what the hold of that sum in a sandbox is worth. -/
noncomputable def Tryz.pinned : Pinned := { name := "ytblipdmagfiigaagreat", sum := "935c6ddd4cb4da05a296cd993ecdd732347106305da6644e2a11cc0ec8b9af4b", checked := Tryz.checked }
namespace Rows
def none {H : Type} : Left H := { results := [], args := [] }

/-- 'inkhornlaw24.CoordNone': WHATEVER THE INPUT: true; the input reads as it did. -/
def coordNoneSpec : ChangeSpec := { name := "coordNone", fn := fun _ => fun
  | [d] => { results := [.lit (.bool true)], args := [d] }
  | _ => none }
def coordNoneRow : OpenClaim := { program := "ytblipdmagfiigaagreat", sum := "935c6ddd4cb4da05a296cd993ecdd732347106305da6644e2a11cc0ec8b9af4b", func := "inkhorn/inkhornlaw24.CoordNone", spec := "coordNone", unfollowed := true, recurses := true, apart := false }
def CoordNoneSaid : Prop := coordNoneRow.holds Tryz.pinned (OpenSpec.ofChange coordNoneSpec)

/-- ITS FALSE NEIGHBOUR: 'it returns false'. Refute it at one input. -/
def coordNoneWrong : ChangeSpec := { name := "coordNone", fn := fun _ => fun
  | [d] => { results := [.lit (.bool false)], args := [d] }
  | _ => none }
def CoordNoneWrongFalsely : Prop := coordNoneRow.holds Tryz.pinned (OpenSpec.ofChange coordNoneWrong)

/-- 'inkhornlaw24.CoordFirst': WHATEVER THE INPUT: true; the input reads as it did. -/
def coordFirstSpec : ChangeSpec := { name := "coordFirst", fn := fun _ => fun
  | [d1, d2, d3, d4] => { results := [.lit (.bool true)], args := [d1, d2, d3, d4] }
  | _ => none }
def coordFirstRow : OpenClaim := { program := "ytblipdmagfiigaagreat", sum := "935c6ddd4cb4da05a296cd993ecdd732347106305da6644e2a11cc0ec8b9af4b", func := "inkhorn/inkhornlaw24.CoordFirst", spec := "coordFirst", unfollowed := true, recurses := true, apart := false }
def CoordFirstSaid : Prop := coordFirstRow.holds Tryz.pinned (OpenSpec.ofChange coordFirstSpec)

/-- ITS FALSE NEIGHBOUR: 'it returns false'. Refute it at one input. -/
def coordFirstWrong : ChangeSpec := { name := "coordFirst", fn := fun _ => fun
  | [d1, d2, d3, d4] => { results := [.lit (.bool false)], args := [d1, d2, d3, d4] }
  | _ => none }
def CoordFirstWrongFalsely : Prop := coordFirstRow.holds Tryz.pinned (OpenSpec.ofChange coordFirstWrong)

/-- 'inkhornlaw24.CoordRounds': WHATEVER THE INPUT: true; the input reads as it did. -/
def coordRoundsSpec : ChangeSpec := { name := "coordRounds", fn := fun _ => fun
  | [d1, d2] => { results := [.lit (.bool true)], args := [d1, d2] }
  | _ => none }
def coordRoundsRow : OpenClaim := { program := "ytblipdmagfiigaagreat", sum := "935c6ddd4cb4da05a296cd993ecdd732347106305da6644e2a11cc0ec8b9af4b", func := "inkhorn/inkhornlaw24.CoordRounds", spec := "coordRounds", unfollowed := true, recurses := true, apart := false }
def CoordRoundsSaid : Prop := coordRoundsRow.holds Tryz.pinned (OpenSpec.ofChange coordRoundsSpec)

/-- ITS FALSE NEIGHBOUR: 'it returns false'. Refute it at one input. -/
def coordRoundsWrong : ChangeSpec := { name := "coordRounds", fn := fun _ => fun
  | [d1, d2] => { results := [.lit (.bool false)], args := [d1, d2] }
  | _ => none }
def CoordRoundsWrongFalsely : Prop := coordRoundsRow.holds Tryz.pinned (OpenSpec.ofChange coordRoundsWrong)

/- THE SECOND FORM. 'bulk': how many values and letters a reading holds, each counted each time it is reached (what is shared counts as often as it is met; a slice's spare places count too). A statement '..UptoSaid' is the law's where the arguments, and the package variables that the reading takes, are together of bulk at most 1048576: NARROWER than '..Said'. Prove '..Said' where nothing that the law and all that it calls make is longer than what came in: it says more and counts as full. Else prove '..UptoSaid'. A law counts once. -/
mutual
def uptoBulk {H : Type} : DataW H → Nat
  | .lit (.string bytes) => bytes.length + 1
  | .lit _ => 1
  | .nil => 1
  | .ptr d => uptoBulk d + 1
  | .slice elems spare => uptoBulkAll elems + uptoBulkAll spare + 1
  | .agg parts => uptoBulkAll parts + 1
  | .iface _ d => uptoBulk d + 1
  | .map entries => uptoBulkEntries entries + 1
  | .held _ => 1
def uptoBulkAll {H : Type} : List (DataW H) → Nat
  | [] => 0
  | d :: r => uptoBulk d + uptoBulkAll r
def uptoBulkEntries {H : Type} : List (Lit × DataW H) → Nat
  | [] => 0
  | x :: r => uptoBulkEntry x + uptoBulkEntries r
def uptoBulkEntry {H : Type} : Lit × DataW H → Nat
  | (.string bytes, d) => bytes.length + uptoBulk d + 1
  | (_, d) => uptoBulk d + 1
 end
def uptoSmall : (H : Type) → List (DataW H) → Bool := fun _ ds => decide (uptoBulkAll ds ≤ 1048576)
def OpenSpec.upto (s : _root_.Go.ChangeSpec) : _root_.Go.OpenSpec := { _root_.Go.OpenSpec.ofChange s with cond := some uptoSmall }

/-- 'inkhornlaw24.CoordNone', WHERE WHAT IT READS IS OF BULK AT MOST 1048576: true; the input reads as it did. -/
def coordNoneUptoRow : OpenClaim := { program := "ytblipdmagfiigaagreat", sum := "935c6ddd4cb4da05a296cd993ecdd732347106305da6644e2a11cc0ec8b9af4b", func := "inkhorn/inkhornlaw24.CoordNone", spec := "coordNone", unfollowed := true, recurses := true, apart := false, narrowed := true }
def CoordNoneUptoSaid : Prop := coordNoneUptoRow.holds Tryz.pinned (OpenSpec.upto coordNoneSpec)

/-- 'inkhornlaw24.CoordFirst', WHERE WHAT IT READS IS OF BULK AT MOST 1048576: true; the input reads as it did. -/
def coordFirstUptoRow : OpenClaim := { program := "ytblipdmagfiigaagreat", sum := "935c6ddd4cb4da05a296cd993ecdd732347106305da6644e2a11cc0ec8b9af4b", func := "inkhorn/inkhornlaw24.CoordFirst", spec := "coordFirst", unfollowed := true, recurses := true, apart := false, narrowed := true }
def CoordFirstUptoSaid : Prop := coordFirstUptoRow.holds Tryz.pinned (OpenSpec.upto coordFirstSpec)

/-- 'inkhornlaw24.CoordRounds', WHERE WHAT IT READS IS OF BULK AT MOST 1048576: true; the input reads as it did. -/
def coordRoundsUptoRow : OpenClaim := { program := "ytblipdmagfiigaagreat", sum := "935c6ddd4cb4da05a296cd993ecdd732347106305da6644e2a11cc0ec8b9af4b", func := "inkhorn/inkhornlaw24.CoordRounds", spec := "coordRounds", unfollowed := true, recurses := true, apart := false, narrowed := true }
def CoordRoundsUptoSaid : Prop := coordRoundsUptoRow.holds Tryz.pinned (OpenSpec.upto coordRoundsSpec)

end Rows
end Go.Proofs.YtblipdmagfiigaaGreat
