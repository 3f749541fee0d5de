/-
  Texts that fit: too long, with a zero, twice the same.
-/
import Derived.Test.YtnilcnobngcbgaaGreatShf
namespace Go.Proofs.YtnilcnobngcbgaaGreat
open Go.RowKit
attribute [local go_sem ↓] Go.wp_at_zero Go.wp_at_succ

/-- Is a text too long? -/
def longS (m : Int) (s : ByteArray) : Bool := decide (m < (s.size : Int))
def IdxPost (b : Bool) (w : World) (e : Ending) (w' : World) : Prop := ∃ r : Int, e = .returned (.int .i64 r) ∧ decide (0 ≤ r) = b ∧ w.grownBy w' none

def inS (l : List ByteArray) (x : ByteArray) : Bool := l.any fun y => decide (y = x)
theorem inS_yes {l : List ByteArray} {x : ByteArray} (h : x ∈ l) : inS l x = true := List.any_eq_true.2 ⟨x, h, decide_eq_true rfl⟩
theorem inS_no {l : List ByteArray} {x : ByteArray} (h : ¬ x ∈ l) : inS l x = false := by
  rw [Bool.eq_false_iff]
  intro hc
  obtain ⟨y, hy, he⟩ := List.any_eq_true.1 hc
  exact h ((of_decide_eq_true he) ▸ hy)
end Go.Proofs.YtnilcnobngcbgaaGreat
