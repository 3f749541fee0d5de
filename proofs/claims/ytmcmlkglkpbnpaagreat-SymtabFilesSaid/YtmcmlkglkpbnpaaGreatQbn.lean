/-
  The document's file system: List (a name is put where it belongs, one by one).
-/
import Derived.Test.YtmcmlkglkpbnpaaGreatQbh
import Derived.Test.YtmcmlkglkpbnpaaGreatQbm
import Derived.Laws.OwnMore
import Derived.Deep.RegionLaw
namespace Go.Proofs.YtmcmlkglkpbnpaaGreat
open Go.RowKit Go.Sort
attribute [local go_sem ↓] Go.wp_at_zero Go.wp_at_succ
/-! ## Plain words -/
def ltS (a b : ByteArray) : Prop := a.data.toList < b.data.toList
instance (a b : ByteArray) : Decidable (ltS a b) := inferInstanceAs (Decidable (a.data.toList < b.data.toList))
section
variable {w : World} {o : Oper} {a : Act}
end
end Go.Proofs.YtmcmlkglkpbnpaaGreat
