/- the library's SortFunc, Compact, BinarySearchFunc at this seat -/
import Derived.Shelf.Lay
import Derived.Shelf.LaySoft
import Derived.Shelf.SlSortCmp.NoneTotal
import Derived.Shelf.Slices.CompactS
import Derived.Ground.SlsfProg
import Derived.Ground.NamesProg
import Derived.Test.YtieenopbkkbecaaChecked
namespace Go.Proofs.Ytieenopbkkbecaa
open Go.Shelf Go.RowKit
shelf_lay_g SlLaysF.n6 Slsf 6 at Try 28 as Try.sortT
shelf_lay Lays.n194 Nm 194 at Try as Try.compactT
end Go.Proofs.Ytieenopbkkbecaa
