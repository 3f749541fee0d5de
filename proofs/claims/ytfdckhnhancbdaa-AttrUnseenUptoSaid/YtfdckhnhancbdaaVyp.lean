/-
  Plain words of Vw and Vy, for seats without the program's value package.
-/
import Derived.Test.YtfdckhnhancbdaaVh
import Derived.Test.YtfdckhnhancbdaaVa
namespace Go.Proofs.Ytfdckhnhancbdaa
open Go.RowKit

def isSeq (v : Vl) : Bool := v.t == 0 || (decide (0 < v.t) && (hasN v.t || hasS v.t))
/-- Is a text too long? -/
def longS (m : Int) (s : ByteArray) : Bool := decide (m < (s.size : Int))
def IdxPost (b : Bool) (w : World) (e : Ending) (w' : World) : Prop := ∃ r : Int, e = .returned (.int .i64 r) ∧ decide (0 ≤ r) = b ∧ w.grownBy w' none
def inS (l : List ByteArray) (x : ByteArray) : Bool := l.any fun y => decide (y = x)
theorem inS_yes {l : List ByteArray} {x : ByteArray} (h : x ∈ l) : inS l x = true := List.any_eq_true.2 ⟨x, h, decide_eq_true rfl⟩
theorem inS_no {l : List ByteArray} {x : ByteArray} (h : ¬ x ∈ l) : inS l x = false := by
  rw [Bool.eq_false_iff]
  intro hc
  obtain ⟨y, hy, he⟩ := List.any_eq_true.1 hc
  exact h ((of_decide_eq_true he) ▸ hy)
/-- Has a value nothing but what its type names? -/
def named (v : Vl) : Bool :=
  let a := (v.n.length : Int) == 0
  let b := (v.s.length : Int) == 0
  let c := (v.l.length : Int) == 0
  if v.t = 0 ∨ v.t = 99 then a && b else if v.t = 98 then a else if v.t = 100 then a && c else if v.t = 101 then a && b && c else hasN v.t && b && c || hasS v.t && a && c
def manyV (v : Vl) : Bool := if v.t = 98 then decide (64 < v.s.length) || decide (64 < v.l.length) else isSeq v && decide (65536 < v.count)
def tooLongV (v : Vl) : Bool := v.s.any (longS (if v.t = 100 then 65536 else 64))
def lvl (m : Int) (v : Vl) : Bool := (v.count : Int) == m
def levelV (v : Vl) : Bool := if v.t = 98 ∨ v.t = 99 then v.l.all (lvl v.count) else true
mutual
theorem Vl.depth_le_tot : ∀ v : Vl, v.depth ≤ v.tot
  | .mk t n s l => by
    have := Vl.depths_le_tots l
    simp only [Vl.depth, Vl.tot]
    omega
theorem Vl.depths_le_tots : ∀ l : List Vl, Vl.depths l ≤ Vl.tots l
  | [] => by simp [Vl.depths]
  | x :: r => by
    have h1 := Vl.depth_le_tot x
    have h2 := Vl.depths_le_tots r
    simp only [Vl.depths, Vl.tots]
    omega
end
end Go.Proofs.Ytfdckhnhancbdaa
