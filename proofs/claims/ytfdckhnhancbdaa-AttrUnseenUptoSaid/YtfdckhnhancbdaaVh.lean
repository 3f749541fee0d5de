/-
  Types, ranks, counts.
-/
import Derived.Test.YtfdckhnhancbdaaVg
import Derived.Test.YtfdckhnhancbdaaVd
namespace Go.Proofs.Ytfdckhnhancbdaa
open Go.RowKit
attribute [local go_sem ↓] Go.wp_at_zero Go.wp_at_succ

/-- Has a type numbers? -/
def hasN (t : Int) : Bool := t == 1 || t == 2 || t == 4 || t == 5 || t == -1 || t == -2 || t == -4 || t == -5
def hasS (t : Int) : Bool := t == 3 || t == -3
def atomT (t : Int) : Bool := decide (t < 0) && (hasN t || hasS t)

end Go.Proofs.Ytfdckhnhancbdaa
