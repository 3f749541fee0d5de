/-
  No cell of these rows narrows 'for every input' (looked for: loops, veiled, ifaces, maps, wideKeys, modest, calm, conditions, laid).
  DERIVED. THE GIVEN ROWS OF THIS SEAT. 4 by the template 'for every input the law returns true; each argument reads behind the call as it read before'; 0 by the template 'total and deterministic' (their statements: YtpkmlehkmmdkoaaTotals.lean).
  GIVEN WITH THE SEED: the statements are not yours to turn. If you find one false, say at which input.
  Laid BY PROGRAM, IN A SANDBOX (cutbox-rows.mjs): the forced cells as the released guide's own fill.sh prints them over the translation 0c2cd60754779611… (all of the seat's roots in one cut). By AI agents, Wed Nov 11 2026. No macro, syntax, notation, axiom, sorry.
-/
import Derived.Test.YtpkmlehkmmdkoaaChecked
import GoSem.Claim
import GoSem.ClaimJoined
import GoSem.ClaimMapViews
import Derived.JoinedTies
import Derived.KernelRfl
namespace Go.Proofs.Ytpkmlehkmmdkoaa
/- THE CELL 'sum', in the pinned program and in every row, IS THE sha256 OF THE DUMP (.gsa) THAT YtpkmlehkmmdkoaaProg.lean LOADS. Nothing in Lean hashes anything: it is a label: what it is worth is what the hold of that sum in a sandbox is worth. -/
noncomputable def Try.pinned : Pinned := { name := "ytpkmlehkmmdkoaa", sum := "0c2cd6075477961102c138b9152f73224c64bb6fafc8bd661ddf12d6e60e5332", checked := Try.checked }
namespace Rows
def none {H : Type} : Left H := { results := [], args := [] }

/-- 'quiverlaw02.SimfsSame': WHATEVER THE INPUT: true; the input reads as it did. -/
def simfsSameSpec : ChangeSpec := { name := "simfsSame", fn := fun _ => fun
  | [d1, d2, d3] => { results := [.lit (.bool true)], args := [d1, d2, d3] }
  | _ => none }
def simfsSameRow : OpenClaim := { program := "ytpkmlehkmmdkoaa", sum := "0c2cd6075477961102c138b9152f73224c64bb6fafc8bd661ddf12d6e60e5332", func := "quiver/quiverlaw02.SimfsSame", spec := "simfsSame", inPlace := ["maps.clone"], unfollowed := true, recurses := true, apart := false }
def SimfsSameSaid : Prop := simfsSameRow.holds Try.pinned (OpenSpec.ofChange simfsSameSpec)

/-- ITS FALSE NEIGHBOUR: 'it returns false'. Refute it at one input. -/
def simfsSameWrong : ChangeSpec := { name := "simfsSame", fn := fun _ => fun
  | [d1, d2, d3] => { results := [.lit (.bool false)], args := [d1, d2, d3] }
  | _ => none }
def SimfsSameWrongFalsely : Prop := simfsSameRow.holds Try.pinned (OpenSpec.ofChange simfsSameWrong)

/-- 'quiverlaw02.SimfsSwitch': WHATEVER THE INPUT: true; the input reads as it did. -/
def simfsSwitchSpec : ChangeSpec := { name := "simfsSwitch", fn := fun _ => fun
  | [d] => { results := [.lit (.bool true)], args := [d] }
  | _ => none }
def simfsSwitchRow : OpenClaim := { program := "ytpkmlehkmmdkoaa", sum := "0c2cd6075477961102c138b9152f73224c64bb6fafc8bd661ddf12d6e60e5332", func := "quiver/quiverlaw02.SimfsSwitch", spec := "simfsSwitch", inPlace := ["maps.clone"], apart := false }
def SimfsSwitchSaid : Prop := simfsSwitchRow.holds Try.pinned (OpenSpec.ofChange simfsSwitchSpec)

/-- ITS FALSE NEIGHBOUR: 'it returns false'. Refute it at one input. -/
def simfsSwitchWrong : ChangeSpec := { name := "simfsSwitch", fn := fun _ => fun
  | [d] => { results := [.lit (.bool false)], args := [d] }
  | _ => none }
def SimfsSwitchWrongFalsely : Prop := simfsSwitchRow.holds Try.pinned (OpenSpec.ofChange simfsSwitchWrong)

/-- 'quiverlaw02.SimfsFull': WHATEVER THE INPUT: true; the input reads as it did. -/
def simfsFullSpec : ChangeSpec := { name := "simfsFull", fn := fun _ => fun
  | [d1, d2] => { results := [.lit (.bool true)], args := [d1, d2] }
  | _ => none }
def simfsFullRow : OpenClaim := { program := "ytpkmlehkmmdkoaa", sum := "0c2cd6075477961102c138b9152f73224c64bb6fafc8bd661ddf12d6e60e5332", func := "quiver/quiverlaw02.SimfsFull", spec := "simfsFull", inPlace := ["maps.clone"], unfollowed := true, recurses := true, apart := false }
def SimfsFullSaid : Prop := simfsFullRow.holds Try.pinned (OpenSpec.ofChange simfsFullSpec)

/-- ITS FALSE NEIGHBOUR: 'it returns false'. Refute it at one input. -/
def simfsFullWrong : ChangeSpec := { name := "simfsFull", fn := fun _ => fun
  | [d1, d2] => { results := [.lit (.bool false)], args := [d1, d2] }
  | _ => none }
def SimfsFullWrongFalsely : Prop := simfsFullRow.holds Try.pinned (OpenSpec.ofChange simfsFullWrong)

/-- 'quiverlaw02.SimfsNames': WHATEVER THE INPUT: true; the input reads as it did. -/
def simfsNamesSpec : ChangeSpec := { name := "simfsNames", fn := fun _ => fun
  | [d] => { results := [.lit (.bool true)], args := [d] }
  | _ => none }
def simfsNamesRow : OpenClaim := { program := "ytpkmlehkmmdkoaa", sum := "0c2cd6075477961102c138b9152f73224c64bb6fafc8bd661ddf12d6e60e5332", func := "quiver/quiverlaw02.SimfsNames", spec := "simfsNames", inPlace := ["maps.clone"], apart := false }
def SimfsNamesSaid : Prop := simfsNamesRow.holds Try.pinned (OpenSpec.ofChange simfsNamesSpec)

/-- ITS FALSE NEIGHBOUR: 'it returns false'. Refute it at one input. -/
def simfsNamesWrong : ChangeSpec := { name := "simfsNames", fn := fun _ => fun
  | [d] => { results := [.lit (.bool false)], args := [d] }
  | _ => none }
def SimfsNamesWrongFalsely : Prop := simfsNamesRow.holds Try.pinned (OpenSpec.ofChange simfsNamesWrong)

/- THE SECOND FORM. 'bulk': how many values and letters a reading holds, each counted each time it is reached (what is shared counts as often as it is met; a slice's spare places count too). A statement '..UptoSaid' is the law's where the arguments, and the package variables that the reading takes, are together of bulk at most 1048576: NARROWER than '..Said'. Prove '..Said' where nothing that the law and all that it calls make is longer than what came in: it says more and counts as full. Else prove '..UptoSaid'. A law counts once. -/
mutual
def uptoBulk {H : Type} : DataW H → Nat
  | .lit (.string bytes) => bytes.length + 1
  | .lit _ => 1
  | .nil => 1
  | .ptr d => uptoBulk d + 1
  | .slice elems spare => uptoBulkAll elems + uptoBulkAll spare + 1
  | .agg parts => uptoBulkAll parts + 1
  | .iface _ d => uptoBulk d + 1
  | .map entries => uptoBulkEntries entries + 1
  | .held _ => 1
def uptoBulkAll {H : Type} : List (DataW H) → Nat
  | [] => 0
  | d :: r => uptoBulk d + uptoBulkAll r
def uptoBulkEntries {H : Type} : List (Lit × DataW H) → Nat
  | [] => 0
  | x :: r => uptoBulkEntry x + uptoBulkEntries r
def uptoBulkEntry {H : Type} : Lit × DataW H → Nat
  | (.string bytes, d) => bytes.length + uptoBulk d + 1
  | (_, d) => uptoBulk d + 1
 end
def uptoSmall : (H : Type) → List (DataW H) → Bool := fun _ ds => decide (uptoBulkAll ds ≤ 1048576)
def OpenSpec.upto (s : _root_.Go.ChangeSpec) : _root_.Go.OpenSpec := { _root_.Go.OpenSpec.ofChange s with cond := some uptoSmall }

/-- 'quiverlaw02.SimfsSame', WHERE WHAT IT READS IS OF BULK AT MOST 1048576: true; the input reads as it did. -/
def simfsSameUptoRow : OpenClaim := { program := "ytpkmlehkmmdkoaa", sum := "0c2cd6075477961102c138b9152f73224c64bb6fafc8bd661ddf12d6e60e5332", func := "quiver/quiverlaw02.SimfsSame", spec := "simfsSame", inPlace := ["maps.clone"], unfollowed := true, recurses := true, apart := false, narrowed := true }
def SimfsSameUptoSaid : Prop := simfsSameUptoRow.holds Try.pinned (OpenSpec.upto simfsSameSpec)

/-- 'quiverlaw02.SimfsSwitch', WHERE WHAT IT READS IS OF BULK AT MOST 1048576: true; the input reads as it did. -/
def simfsSwitchUptoRow : OpenClaim := { program := "ytpkmlehkmmdkoaa", sum := "0c2cd6075477961102c138b9152f73224c64bb6fafc8bd661ddf12d6e60e5332", func := "quiver/quiverlaw02.SimfsSwitch", spec := "simfsSwitch", inPlace := ["maps.clone"], apart := false, narrowed := true }
def SimfsSwitchUptoSaid : Prop := simfsSwitchUptoRow.holds Try.pinned (OpenSpec.upto simfsSwitchSpec)

/-- 'quiverlaw02.SimfsFull', WHERE WHAT IT READS IS OF BULK AT MOST 1048576: true; the input reads as it did. -/
def simfsFullUptoRow : OpenClaim := { program := "ytpkmlehkmmdkoaa", sum := "0c2cd6075477961102c138b9152f73224c64bb6fafc8bd661ddf12d6e60e5332", func := "quiver/quiverlaw02.SimfsFull", spec := "simfsFull", inPlace := ["maps.clone"], unfollowed := true, recurses := true, apart := false, narrowed := true }
def SimfsFullUptoSaid : Prop := simfsFullUptoRow.holds Try.pinned (OpenSpec.upto simfsFullSpec)

/-- 'quiverlaw02.SimfsNames', WHERE WHAT IT READS IS OF BULK AT MOST 1048576: true; the input reads as it did. -/
def simfsNamesUptoRow : OpenClaim := { program := "ytpkmlehkmmdkoaa", sum := "0c2cd6075477961102c138b9152f73224c64bb6fafc8bd661ddf12d6e60e5332", func := "quiver/quiverlaw02.SimfsNames", spec := "simfsNames", inPlace := ["maps.clone"], apart := false, narrowed := true }
def SimfsNamesUptoSaid : Prop := simfsNamesUptoRow.holds Try.pinned (OpenSpec.upto simfsNamesSpec)

end Rows
end Go.Proofs.Ytpkmlehkmmdkoaa
