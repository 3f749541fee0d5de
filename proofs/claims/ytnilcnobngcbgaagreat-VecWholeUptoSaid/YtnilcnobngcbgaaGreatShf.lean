/-
  strings.IndexByte by the library's contract; texts without the byte 0; lists of texts.
-/
import Derived.Shelf.Small.Strs
import Derived.Shelf.Strings.Search1
import Derived.Test.YtnilcnobngcbgaaGreatVu
namespace Go.Proofs
open Go.Shelf
end Go.Proofs
namespace Go.Proofs.YtnilcnobngcbgaaGreat
open Go.RowKit
attribute [local go_sem ↓] Go.wp_at_zero Go.wp_at_succ

def hasZ (s : ByteArray) : Bool := decide (0 ≤ Lib.indexByte s.data.toList 0)
end Go.Proofs.YtnilcnobngcbgaaGreat
