/-
  NARROWER THAN 'FOR EVERY INPUT', by the rows' own cells (each row's printed sentence says how): AggStable: loops.
  DERIVED. THE GIVEN ROWS OF THIS SEAT. 2 by the template 'for every input the law returns true; each argument reads behind the call as it read before'; 0 by the template 'total and deterministic' (their statements: YtgepejnooghjbaaGreatTotals.lean).
  GIVEN WITH THE SEED: the statements are not yours to turn. If you find one false, say at which input.
  Laid BY PROGRAM, IN A SANDBOX (cutbox-rows.mjs): the forced cells as the released guide's own fill.sh prints them over the translation 887edc20a7742bc5… (all of the seat's roots in one cut). By AI agents, Wed Nov 11 2026. No macro, syntax, notation, axiom, sorry.
-/
import Derived.Test.YtgepejnooghjbaaGreatChecked
import GoSem.Claim
import GoSem.ClaimJoined
import GoSem.ClaimMapViews
import Derived.JoinedTies
import Derived.KernelRfl
namespace Go.Proofs.YtgepejnooghjbaaGreat
/- THE CELL 'sum', in the pinned program and in every row, IS THE sha256 OF THE DUMP (.gsa) THAT YtgepejnooghjbaaGreatProg.lean LOADS. Nothing in Lean hashes anything: it is a label: what it is worth is what the hold of that sum in a sandbox is worth. -/
noncomputable def Tryz.pinned : Pinned := { name := "ytgepejnooghjbaagreat", sum := "887edc20a7742bc56876792c67c0647f1b1ce383ac946b59c0ced2c8e021a3ea", checked := Tryz.checked }
namespace Rows
def none {H : Type} : Left H := { results := [], args := [] }

/-- 'quiverlaw08.AggStable': WHATEVER THE INPUT: true; the input reads as it did. -/
def aggStableSpec : ChangeSpec := { name := "aggStable", fn := fun _ => fun
  | [d1, d2] => { results := [.lit (.bool true)], args := [d1, d2] }
  | _ => none }
def aggStableRow : OpenClaim := { program := "ytgepejnooghjbaagreat", sum := "887edc20a7742bc56876792c67c0647f1b1ce383ac946b59c0ced2c8e021a3ea", func := "quiver/quiverlaw08.AggStable", spec := "aggStable", unfollowed := true, recurses := true, named := ["math/bits.divideError", "math/bits.overflowError"], loops := true, apart := false }
def AggStableSaid : Prop := aggStableRow.holds Tryz.pinned (OpenSpec.ofChange aggStableSpec)

/-- ITS FALSE NEIGHBOUR: 'it returns false'. Refute it at one input. -/
def aggStableWrong : ChangeSpec := { name := "aggStable", fn := fun _ => fun
  | [d1, d2] => { results := [.lit (.bool false)], args := [d1, d2] }
  | _ => none }
def AggStableWrongFalsely : Prop := aggStableRow.holds Tryz.pinned (OpenSpec.ofChange aggStableWrong)

/-- 'quiverlaw08.AggBetween': WHATEVER THE INPUT: true; the input reads as it did. -/
def aggBetweenSpec : ChangeSpec := { name := "aggBetween", fn := fun _ => fun
  | [d] => { results := [.lit (.bool true)], args := [d] }
  | _ => none }
def aggBetweenRow : OpenClaim := { program := "ytgepejnooghjbaagreat", sum := "887edc20a7742bc56876792c67c0647f1b1ce383ac946b59c0ced2c8e021a3ea", func := "quiver/quiverlaw08.AggBetween", spec := "aggBetween", unfollowed := true, recurses := true, named := ["math/bits.divideError", "math/bits.overflowError"], apart := false }
def AggBetweenSaid : Prop := aggBetweenRow.holds Tryz.pinned (OpenSpec.ofChange aggBetweenSpec)

/-- ITS FALSE NEIGHBOUR: 'it returns false'. Refute it at one input. -/
def aggBetweenWrong : ChangeSpec := { name := "aggBetween", fn := fun _ => fun
  | [d] => { results := [.lit (.bool false)], args := [d] }
  | _ => none }
def AggBetweenWrongFalsely : Prop := aggBetweenRow.holds Tryz.pinned (OpenSpec.ofChange aggBetweenWrong)

/- THE SECOND FORM. 'bulk': how many values and letters a reading holds, each counted each time it is reached (what is shared counts as often as it is met; a slice's spare places count too). A statement '..UptoSaid' is the law's where the arguments, and the package variables that the reading takes, are together of bulk at most 1048576: NARROWER than '..Said'. Prove '..Said' where nothing that the law and all that it calls make is longer than what came in: it says more and counts as full. Else prove '..UptoSaid'. A law counts once. -/
mutual
def uptoBulk {H : Type} : DataW H → Nat
  | .lit (.string bytes) => bytes.length + 1
  | .lit _ => 1
  | .nil => 1
  | .ptr d => uptoBulk d + 1
  | .slice elems spare => uptoBulkAll elems + uptoBulkAll spare + 1
  | .agg parts => uptoBulkAll parts + 1
  | .iface _ d => uptoBulk d + 1
  | .map entries => uptoBulkEntries entries + 1
  | .held _ => 1
def uptoBulkAll {H : Type} : List (DataW H) → Nat
  | [] => 0
  | d :: r => uptoBulk d + uptoBulkAll r
def uptoBulkEntries {H : Type} : List (Lit × DataW H) → Nat
  | [] => 0
  | x :: r => uptoBulkEntry x + uptoBulkEntries r
def uptoBulkEntry {H : Type} : Lit × DataW H → Nat
  | (.string bytes, d) => bytes.length + uptoBulk d + 1
  | (_, d) => uptoBulk d + 1
 end
def uptoSmall : (H : Type) → List (DataW H) → Bool := fun _ ds => decide (uptoBulkAll ds ≤ 1048576)
def OpenSpec.upto (s : _root_.Go.ChangeSpec) : _root_.Go.OpenSpec := { _root_.Go.OpenSpec.ofChange s with cond := some uptoSmall }

/-- 'quiverlaw08.AggStable', WHERE WHAT IT READS IS OF BULK AT MOST 1048576: true; the input reads as it did. -/
def aggStableUptoRow : OpenClaim := { program := "ytgepejnooghjbaagreat", sum := "887edc20a7742bc56876792c67c0647f1b1ce383ac946b59c0ced2c8e021a3ea", func := "quiver/quiverlaw08.AggStable", spec := "aggStable", unfollowed := true, recurses := true, named := ["math/bits.divideError", "math/bits.overflowError"], loops := true, apart := false, narrowed := true }
def AggStableUptoSaid : Prop := aggStableUptoRow.holds Tryz.pinned (OpenSpec.upto aggStableSpec)

/-- 'quiverlaw08.AggBetween', WHERE WHAT IT READS IS OF BULK AT MOST 1048576: true; the input reads as it did. -/
def aggBetweenUptoRow : OpenClaim := { program := "ytgepejnooghjbaagreat", sum := "887edc20a7742bc56876792c67c0647f1b1ce383ac946b59c0ced2c8e021a3ea", func := "quiver/quiverlaw08.AggBetween", spec := "aggBetween", unfollowed := true, recurses := true, named := ["math/bits.divideError", "math/bits.overflowError"], apart := false, narrowed := true }
def AggBetweenUptoSaid : Prop := aggBetweenUptoRow.holds Tryz.pinned (OpenSpec.upto aggBetweenSpec)

end Rows
end Go.Proofs.YtgepejnooghjbaaGreat
