/-
  A region that draws its order, whose operations only read and whose callees read and lay blocks of their own: walked once.
-/
import Derived.Test.YtniliccobkhnlaaVAt
import Derived.Deep.QuietTactic
import Derived.BigQuiet
namespace Go.Proofs.Ytniliccobkhnlaa
open Go.RowKit

/-- A world that has grown out of w. -/
structure GbW (w : World) where
  to : World
  ok : w.grownBy to none

theorem wp_region_quiet_gb {P : Program} {id : Nat} {Q : Exit → Act → World → Prop} {a : Act} {w : World} {l : List Oper} (hm : P.follows .mixedOrders = true) (hB : Region.lexB .any l.toArray = true)
    (h : wpQuiet P l.toArray (fun w' => ∃ p : GbW w, w' = p.to) (fun a' => ∀ w', (∃ p : GbW w, w' = p.to) → Q .normal a' w') l a) : (Code.region id l.toArray true).wp P Q a w :=
  wp_region_quiet (C := fun w' => ∃ p : GbW w, w' = p.to) hm hB ⟨⟨_, gb_drew (gb_refl w none)⟩, rfl⟩ (by simpa using h)

/-- A callee's contract, met in a world that has grown. -/
theorem Calls.gb_of {P : Program} {f : FuncId} {args : Array Value} {w : World} {p : GbW w} {v : Value}
    (h : Calls P f args p.to fun e w' => e = .returned v ∧ p.to.grownBy w' none) : Calls P f args p.to fun e w'' => e = .returned v ∧ ∃ q : GbW w, w'' = q.to :=
  h.mono fun _ w' ⟨he, hg⟩ => ⟨he, ⟨w', gb_trans p.ok hg (.inl rfl)⟩, rfl⟩
theorem GbW.cell {w : World} {a : Addr} {u : Value} (h : w.cell? a = some u) (p : GbW w) : p.to.cell? a = some u := cell_gb h p.ok
end Go.Proofs.Ytniliccobkhnlaa
