/-
  The laws' count of what is handed in.
-/
import Derived.Test.YtfdckhnhancbdaaChecked
import Derived.Test.YtfdckhnhancbdaaVAt
namespace Go.Proofs.Ytfdckhnhancbdaa
open Go.RowKit

/-- What the laws' count says of n elements, bytes and parts: it stops above 70000. -/
def Cnt (n : Nat) (r : Int) : Prop := 0 ≤ r ∧ r ≤ n ∧ (r = n ∨ 70000 < r)
def SizePost (v : Vl) (w : World) (e : Ending) (w' : World) : Prop := ∃ r : Int, e = .returned (.int .i64 r) ∧ Cnt v.tot r ∧ w.grownBy w' none

/-- Is there too much? -/
def hugeV (l : List Vl) : Bool := decide (70000 < Vl.tots l)
end Go.Proofs.Ytfdckhnhancbdaa
