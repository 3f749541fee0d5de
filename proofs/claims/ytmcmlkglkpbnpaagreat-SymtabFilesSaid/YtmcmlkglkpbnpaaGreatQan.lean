/-
  The contract of quiverlaw01.live: it answers true, whatever the world; nothing that was there turns.
-/
import Derived.Test.YtmcmlkglkpbnpaaGreatQai
import Derived.Test.YtmcmlkglkpbnpaaGreatQag
import Derived.Lib.SlBytesConst
namespace Go.Proofs.YtmcmlkglkpbnpaaGreat
open Go.RowKit
def lit : List UInt8 := [172, 2, 5, 2, 97, 98]
set_option maxRecDepth 100000 in
theorem own_string {w w' : World} {base n : Nat} {A : Option Addr} {c : Nat} {bs : List UInt8} (ho : w.ownsRow base 5 1 (.slice A n c) n (u8s bs)) (hn : bs.length = n) (hg : w.grownBy w' none) :
  (convert 49 9 (.slice A n c)).run Tryz.prog w' = .ok (.string ⟨bs.toArray⟩) w' := by
 subst hn
 obtain ⟨A', c', e, _, _, hr⟩ := own_form (own_grown ho hg)
 injection e with e1 _ e2
 subst e1; subst e2
 exact run_string_of w' 49 5 Tryz.underlying49 Tryz.underlying5 _ _ _ _ hr 9 Tryz.underlying9
theorem Rd.marked (w : World) (cs : Array Value) (t : TypeId) (fr : Nat × Nat) (xs : List Value) (h : xs = cs.toList) : Rd (w.alloc (.cells cs t fr)) (w.heap.size + 1) (some ⟨w.heap.size, 0, none⟩) xs := fun _ =>
 ⟨_, rfl, by simp, fun j u hu => by
  subst h
  have e : (⟨w.heap.size, 0, none⟩ : Addr).add j = ⟨w.heap.size, j, none⟩ := by unfold Addr.add; split <;> simp_all
  rw [e, cell_of_row _ w.heap.size j cs t fr (heap_alloc_new w _)]
  simpa using hu⟩
theorem Rdr.above {w : World} {base g : Nat} {bs : List UInt8} {p : Nat} {x : Int} (h : Rdr w base g bs p x) : base ≤ g := h.choose_spec.2.2
end Go.Proofs.YtmcmlkglkpbnpaaGreat
