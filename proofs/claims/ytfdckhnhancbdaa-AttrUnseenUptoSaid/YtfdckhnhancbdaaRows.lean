/-
  NARROWER THAN 'FOR EVERY INPUT', by the rows' own cells (each row's printed sentence says how): AttrPlays: loops · AttrUnseen: loops · AttrNil: loops.
  DERIVED. THE GIVEN ROWS OF THIS SEAT. 4 by the template 'for every input the law returns true; each argument reads behind the call as it read before'; 0 by the template 'total and deterministic' (their statements: YtfdckhnhancbdaaTotals.lean).
  GIVEN WITH THE SEED: the statements are not yours to turn. If you find one false, say at which input.
  Laid BY PROGRAM, IN A SANDBOX (cutbox-rows.mjs): the forced cells as the released guide's own fill.sh prints them over the translation a44333b96ed8fa30… (all of the seat's roots in one cut). By AI agents, Wed Nov 11 2026. No macro, syntax, notation, axiom, sorry.
-/
import Derived.Test.YtfdckhnhancbdaaChecked
import GoSem.Claim
import GoSem.ClaimJoined
import GoSem.ClaimMapViews
import Derived.JoinedTies
import Derived.KernelRfl
namespace Go.Proofs.Ytfdckhnhancbdaa
/- THE CELL 'sum', in the pinned program and in every row, IS THE sha256 OF THE DUMP (.gsa) THAT YtfdckhnhancbdaaProg.lean LOADS. Nothing in Lean hashes anything: it is a label: what it is worth is what the hold of that sum in a sandbox is worth. -/
noncomputable def Try.pinned : Pinned := { name := "ytfdckhnhancbdaa", sum := "a44333b96ed8fa303080a1eb3bf0e80001f7efe2eba5d0a161434559683193ce", checked := Try.checked }
namespace Rows
def none {H : Type} : Left H := { results := [], args := [] }

/-- 'quiverlaw09.AttrPlays': WHATEVER THE INPUT: true; the input reads as it did. -/
def attrPlaysSpec : ChangeSpec := { name := "attrPlays", fn := fun _ => fun
  | [d1, d2, d3, d4, d5, d6] => { results := [.lit (.bool true)], args := [d1, d2, d3, d4, d5, d6] }
  | _ => none }
def attrPlaysRow : OpenClaim := { program := "ytfdckhnhancbdaa", sum := "a44333b96ed8fa303080a1eb3bf0e80001f7efe2eba5d0a161434559683193ce", func := "quiver/quiverlaw09.AttrPlays", spec := "attrPlays", inPlace := ["slices.overlaps[int]"], unfollowed := true, recurses := true, loops := true, plainKeys := false, apart := false }
def AttrPlaysSaid : Prop := attrPlaysRow.holds Try.pinned (OpenSpec.ofChange attrPlaysSpec)

/-- ITS FALSE NEIGHBOUR: 'it returns false'. Refute it at one input. -/
def attrPlaysWrong : ChangeSpec := { name := "attrPlays", fn := fun _ => fun
  | [d1, d2, d3, d4, d5, d6] => { results := [.lit (.bool false)], args := [d1, d2, d3, d4, d5, d6] }
  | _ => none }
def AttrPlaysWrongFalsely : Prop := attrPlaysRow.holds Try.pinned (OpenSpec.ofChange attrPlaysWrong)

/-- 'quiverlaw09.AttrUnseen': WHATEVER THE INPUT: true; the input reads as it did. -/
def attrUnseenSpec : ChangeSpec := { name := "attrUnseen", fn := fun _ => fun
  | [d1, d2, d3, d4] => { results := [.lit (.bool true)], args := [d1, d2, d3, d4] }
  | _ => none }
def attrUnseenRow : OpenClaim := { program := "ytfdckhnhancbdaa", sum := "a44333b96ed8fa303080a1eb3bf0e80001f7efe2eba5d0a161434559683193ce", func := "quiver/quiverlaw09.AttrUnseen", spec := "attrUnseen", unfollowed := true, recurses := true, loops := true, plainKeys := false, apart := false }
def AttrUnseenSaid : Prop := attrUnseenRow.holds Try.pinned (OpenSpec.ofChange attrUnseenSpec)

/-- ITS FALSE NEIGHBOUR: 'it returns false'. Refute it at one input. -/
def attrUnseenWrong : ChangeSpec := { name := "attrUnseen", fn := fun _ => fun
  | [d1, d2, d3, d4] => { results := [.lit (.bool false)], args := [d1, d2, d3, d4] }
  | _ => none }
def AttrUnseenWrongFalsely : Prop := attrUnseenRow.holds Try.pinned (OpenSpec.ofChange attrUnseenWrong)

/-- 'quiverlaw09.AttrMany': WHATEVER THE INPUT: true; the input reads as it did. -/
def attrManySpec : ChangeSpec := { name := "attrMany", fn := fun _ => fun
  | [d1, d2] => { results := [.lit (.bool true)], args := [d1, d2] }
  | _ => none }
def attrManyRow : OpenClaim := { program := "ytfdckhnhancbdaa", sum := "a44333b96ed8fa303080a1eb3bf0e80001f7efe2eba5d0a161434559683193ce", func := "quiver/quiverlaw09.AttrMany", spec := "attrMany", unfollowed := true, recurses := true, plainKeys := false, apart := false }
def AttrManySaid : Prop := attrManyRow.holds Try.pinned (OpenSpec.ofChange attrManySpec)

/-- ITS FALSE NEIGHBOUR: 'it returns false'. Refute it at one input. -/
def attrManyWrong : ChangeSpec := { name := "attrMany", fn := fun _ => fun
  | [d1, d2] => { results := [.lit (.bool false)], args := [d1, d2] }
  | _ => none }
def AttrManyWrongFalsely : Prop := attrManyRow.holds Try.pinned (OpenSpec.ofChange attrManyWrong)

/-- 'quiverlaw09.AttrNil': WHATEVER THE INPUT: true; the input reads as it did. -/
def attrNilSpec : ChangeSpec := { name := "attrNil", fn := fun _ => fun
  | [d] => { results := [.lit (.bool true)], args := [d] }
  | _ => none }
def attrNilRow : OpenClaim := { program := "ytfdckhnhancbdaa", sum := "a44333b96ed8fa303080a1eb3bf0e80001f7efe2eba5d0a161434559683193ce", func := "quiver/quiverlaw09.AttrNil", spec := "attrNil", inPlace := ["slices.overlaps[int]"], unfollowed := true, recurses := true, loops := true, plainKeys := false, apart := false }
def AttrNilSaid : Prop := attrNilRow.holds Try.pinned (OpenSpec.ofChange attrNilSpec)

/-- ITS FALSE NEIGHBOUR: 'it returns false'. Refute it at one input. -/
def attrNilWrong : ChangeSpec := { name := "attrNil", fn := fun _ => fun
  | [d] => { results := [.lit (.bool false)], args := [d] }
  | _ => none }
def AttrNilWrongFalsely : Prop := attrNilRow.holds Try.pinned (OpenSpec.ofChange attrNilWrong)

/- THE SECOND FORM. 'bulk': how many values and letters a reading holds, each counted each time it is reached (what is shared counts as often as it is met; a slice's spare places count too). A statement '..UptoSaid' is the law's where the arguments, and the package variables that the reading takes, are together of bulk at most 1048576: NARROWER than '..Said'. Prove '..Said' where nothing that the law and all that it calls make is longer than what came in: it says more and counts as full. Else prove '..UptoSaid'. A law counts once. -/
mutual
def uptoBulk {H : Type} : DataW H → Nat
  | .lit (.string bytes) => bytes.length + 1
  | .lit _ => 1
  | .nil => 1
  | .ptr d => uptoBulk d + 1
  | .slice elems spare => uptoBulkAll elems + uptoBulkAll spare + 1
  | .agg parts => uptoBulkAll parts + 1
  | .iface _ d => uptoBulk d + 1
  | .map entries => uptoBulkEntries entries + 1
  | .held _ => 1
def uptoBulkAll {H : Type} : List (DataW H) → Nat
  | [] => 0
  | d :: r => uptoBulk d + uptoBulkAll r
def uptoBulkEntries {H : Type} : List (Lit × DataW H) → Nat
  | [] => 0
  | x :: r => uptoBulkEntry x + uptoBulkEntries r
def uptoBulkEntry {H : Type} : Lit × DataW H → Nat
  | (.string bytes, d) => bytes.length + uptoBulk d + 1
  | (_, d) => uptoBulk d + 1
 end
def uptoSmall : (H : Type) → List (DataW H) → Bool := fun _ ds => decide (uptoBulkAll ds ≤ 1048576)
def OpenSpec.upto (s : _root_.Go.ChangeSpec) : _root_.Go.OpenSpec := { _root_.Go.OpenSpec.ofChange s with cond := some uptoSmall }

/-- 'quiverlaw09.AttrPlays', WHERE WHAT IT READS IS OF BULK AT MOST 1048576: true; the input reads as it did. -/
def attrPlaysUptoRow : OpenClaim := { program := "ytfdckhnhancbdaa", sum := "a44333b96ed8fa303080a1eb3bf0e80001f7efe2eba5d0a161434559683193ce", func := "quiver/quiverlaw09.AttrPlays", spec := "attrPlays", inPlace := ["slices.overlaps[int]"], unfollowed := true, recurses := true, loops := true, plainKeys := false, apart := false, narrowed := true }
def AttrPlaysUptoSaid : Prop := attrPlaysUptoRow.holds Try.pinned (OpenSpec.upto attrPlaysSpec)

/-- 'quiverlaw09.AttrUnseen', WHERE WHAT IT READS IS OF BULK AT MOST 1048576: true; the input reads as it did. -/
def attrUnseenUptoRow : OpenClaim := { program := "ytfdckhnhancbdaa", sum := "a44333b96ed8fa303080a1eb3bf0e80001f7efe2eba5d0a161434559683193ce", func := "quiver/quiverlaw09.AttrUnseen", spec := "attrUnseen", unfollowed := true, recurses := true, loops := true, plainKeys := false, apart := false, narrowed := true }
def AttrUnseenUptoSaid : Prop := attrUnseenUptoRow.holds Try.pinned (OpenSpec.upto attrUnseenSpec)

/-- 'quiverlaw09.AttrMany', WHERE WHAT IT READS IS OF BULK AT MOST 1048576: true; the input reads as it did. -/
def attrManyUptoRow : OpenClaim := { program := "ytfdckhnhancbdaa", sum := "a44333b96ed8fa303080a1eb3bf0e80001f7efe2eba5d0a161434559683193ce", func := "quiver/quiverlaw09.AttrMany", spec := "attrMany", unfollowed := true, recurses := true, plainKeys := false, apart := false, narrowed := true }
def AttrManyUptoSaid : Prop := attrManyUptoRow.holds Try.pinned (OpenSpec.upto attrManySpec)

/-- 'quiverlaw09.AttrNil', WHERE WHAT IT READS IS OF BULK AT MOST 1048576: true; the input reads as it did. -/
def attrNilUptoRow : OpenClaim := { program := "ytfdckhnhancbdaa", sum := "a44333b96ed8fa303080a1eb3bf0e80001f7efe2eba5d0a161434559683193ce", func := "quiver/quiverlaw09.AttrNil", spec := "attrNil", inPlace := ["slices.overlaps[int]"], unfollowed := true, recurses := true, loops := true, plainKeys := false, apart := false, narrowed := true }
def AttrNilUptoSaid : Prop := attrNilUptoRow.holds Try.pinned (OpenSpec.upto attrNilSpec)

end Rows
end Go.Proofs.Ytfdckhnhancbdaa
