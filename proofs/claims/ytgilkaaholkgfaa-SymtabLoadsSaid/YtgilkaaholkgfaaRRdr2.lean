/-
  The contracts of the reference's reader: Int, Byte, Count, Text, Done.
-/
import Derived.Test.YtgilkaaholkgfaaRRdr
import Derived.Deep.QuietTactic
import Derived.BigQuiet
namespace Go.Proofs.Ytgilkaaholkgfaa
open Go.RowKit

theorem rNum_u {bs : List UInt8} {p : Nat} {x : Int} : U64 (rNum bs p x).1 := by
  have := rPeek_lt bs p x
  unfold U64
  show (rPeek bs p x).1 ≤ _
  omega
theorem odd_math {n : Nat} (h : U64 n) (hn : n % 2 = 1) : wrap64 (wrap64 (-wrap64 (IntKind.u64.wrap ((n : Int) / 2))) - 1) = unzig n := by
  unfold U64 at h
  unfold unzig wrap64
  rw [if_pos hn, IntKind.wrap_u64]
  omega
theorem even_math {n : Nat} (h : U64 n) (hn : n % 2 ≠ 1) : wrap64 (IntKind.u64.wrap ((n : Int) / 2)) = unzig n := by
  unfold U64 at h
  unfold unzig wrap64
  rw [if_neg hn, IntKind.wrap_u64]
  omega

end Go.Proofs.Ytgilkaaholkgfaa
