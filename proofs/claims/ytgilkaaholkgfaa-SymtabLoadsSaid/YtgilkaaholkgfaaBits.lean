/-
  Plain facts on bits: the zigzag as the program reckons it.
-/
import Derived.Test.YtgilkaaholkgfaaLib
import Derived.Test.YtgilkaaholkgfaaNum
import Derived.WalkSmall
namespace Go.Proofs.Ytgilkaaholkgfaa
open Go.RowKit

theorem xor_ones (a : Nat) (h : a < 18446744073709551616) : bits .xor .u64 (a : Int) 18446744073709551615 = ((18446744073709551615 - a : Nat) : Int) := by
  show IntKind.u64.wrap ((BitVec.ofInt 64 (a : Int) ^^^ BitVec.ofInt 64 18446744073709551615).toNat : Int) = _
  have e : (BitVec.ofInt 64 18446744073709551615 : BitVec 64) = BitVec.allOnes 64 := by decide
  rw [e, BitVec.xor_allOnes, BitVec.toNat_not, BitVec.ofInt_natCast, BitVec.toNat_ofNat, IntKind.wrap_u64]
  omega
theorem xor_zero64 (a : Nat) (h : a < 18446744073709551616) : bits .xor .u64 (a : Int) 0 = (a : Int) := by
  have := u64_xor_nat a 0 h (by decide)
  simpa using this

/-- A signed number of 64 bits (the long numerals behind a name). -/
def I64 (n : Int) : Prop := -9223372036854775808 ≤ n ∧ n ≤ 9223372036854775807

theorem fold_math {n : Int} (h : I64 n) :
    bits BinOp.xor IntKind.u64 (IntKind.u64.wrap (IntKind.u64.wrap n * 2)) (IntKind.u64.wrap (n / 9223372036854775808)) = (zig n : Int) := by
  obtain ⟨h0, h1⟩ := h
  simp only [IntKind.wrap_u64]
  by_cases hn : n < 0
  · rw [show n / 9223372036854775808 = -1 by omega, show ((-1 : Int) % 18446744073709551616) = 18446744073709551615 by decide,
      show (n % 18446744073709551616 * 2 % 18446744073709551616 : Int) = (((n * 2) % 18446744073709551616).toNat : Int) by omega, xor_ones _ (by omega)]
    unfold zig; rw [if_pos hn]; omega
  · rw [show n / 9223372036854775808 = 0 by omega, show ((0 : Int) % 18446744073709551616) = 0 by decide,
      show (n % 18446744073709551616 * 2 % 18446744073709551616 : Int) = (((n * 2) % 18446744073709551616).toNat : Int) by omega, xor_zero64 _ (by omega)]
    unfold zig; rw [if_neg hn]; omega
theorem zig_u64 {n : Int} (h : I64 n) : U64 (zig n) := by
  obtain ⟨h0, h1⟩ := h
  unfold U64
  have := zig_lt n h0 h1
  omega

/-- The signed number that a number stands for. -/
def unzig (n : Nat) : Int := if n % 2 = 1 then -((n / 2 : Nat) : Int) - 1 else ((n / 2 : Nat) : Int)
theorem unzig_zig (n : Int) : unzig (zig n) = n := by
  unfold unzig zig
  split <;> split <;> omega

theorem xor_m1 (x : Nat) (h : x < 9223372036854775808) : bits .xor .i64 (x : Int) (-1) = -(x : Int) - 1 := by
  show IntKind.i64.wrap ((BitVec.ofInt 64 (x : Int) ^^^ BitVec.ofInt 64 (-1)).toNat : Int) = _
  have e : (BitVec.ofInt 64 (-1) : BitVec 64) = BitVec.allOnes 64 := by decide
  rw [e, BitVec.xor_allOnes, BitVec.toNat_not, BitVec.ofInt_natCast, BitVec.toNat_ofNat, IntKind.wrap_i64]
  omega
theorem xor_z (x : Nat) (h : x < 9223372036854775808) : bits .xor .i64 (x : Int) 0 = (x : Int) := by
  show IntKind.i64.wrap ((BitVec.ofInt 64 (x : Int) ^^^ BitVec.ofInt 64 0).toNat : Int) = _
  have e : (BitVec.ofInt 64 0 : BitVec 64) = 0#64 := by decide
  rw [e, BitVec.xor_zero, BitVec.ofInt_natCast, BitVec.toNat_ofNat, IntKind.wrap_i64]
  omega

theorem unfold_math {n : Nat} (h : U64 n) :
    bits BinOp.xor IntKind.i64 (wrap64 ((n : Int) / 2)) (wrap64 (-wrap64 (bits BinOp.and IntKind.u64 (n : Int) 1))) = unzig n := by
  unfold U64 at h
  rw [and_one_u64 _ (by omega) (by omega)]
  have e1 : wrap64 ((n : Int) / 2) = ((n / 2 : Nat) : Int) := by unfold wrap64; omega
  rw [e1]
  unfold unzig
  by_cases hn : n % 2 = 1
  · have e2 : wrap64 (-wrap64 ((n : Int) % 2)) = -1 := by unfold wrap64; omega
    rw [e2, if_pos hn, xor_m1 _ (by omega)]
  · have e2 : wrap64 (-wrap64 ((n : Int) % 2)) = 0 := by unfold wrap64; omega
    rw [e2, if_neg hn, xor_z _ (by omega)]
theorem unzig_i64 {n : Nat} (h : U64 n) : I64 (unzig n) := by
  unfold U64 at h
  unfold I64 unzig
  split <;> omega

theorem bits_or_u64 (a b : Nat) (ha : a < 18446744073709551616) (hb : b < 18446744073709551616) : bits .or .u64 (a : Int) (b : Int) = ((a ||| b : Nat) : Int) := u64_or_nat a b ha hb

theorem andNot128 (b : UInt8) : bits .andNot .u8 (b.toNat : Int) 128 = ((b.toNat % 128 : Nat) : Int) := by
  have all : ∀ k : Fin 256, bits .andNot .u8 (k.val : Int) 128 = ((k.val % 128 : Nat) : Int) := by decide +kernel
  exact all ⟨b.toNat, b.toNat_lt⟩

theorem pow_int (k : Nat) : (2 : Int) ^ (7 * k) = ((128 ^ k : Nat) : Int) := by
  rw [Int.natCast_pow, Int.pow_mul]
  rfl

/-- A byte more of a number, in the program's words: its seven bits are laid above those that are there. -/
theorem num_step (acc k : Nat) (b : UInt8) (hk : k ≤ 9) (ha : acc < 128 ^ k) (h9 : 9 ≤ k → b.toNat ≤ 1) :
    bits BinOp.or IntKind.u64 (acc : Int) (IntKind.u64.wrap (IntKind.u64.wrap (bits BinOp.andNot IntKind.u8 (b.toNat : Int) 128) * 2 ^ (7 * k))) = ((acc + b.toNat % 128 * 128 ^ k : Nat) : Int) := by
  have hb := b.toNat_lt
  have hp : 128 ^ k ≤ 128 ^ 9 := Nat.pow_le_pow_right (by decide) hk
  have hbound : acc + b.toNat % 128 * 128 ^ k < 18446744073709551616 := by
    rcases Nat.lt_or_ge k 9 with h | h
    · have hp8 : 128 ^ k ≤ 128 ^ 8 := Nat.pow_le_pow_right (by decide) (by omega)
      have : b.toNat % 128 * 128 ^ k ≤ 127 * 128 ^ 8 := Nat.mul_le_mul (by omega) hp8
      omega
    · have := h9 h
      have : b.toNat % 128 * 128 ^ k ≤ 1 * 128 ^ 9 := Nat.mul_le_mul (by omega) hp
      omega
  have e1 : IntKind.u64.wrap (bits BinOp.andNot IntKind.u8 (b.toNat : Int) 128) = ((b.toNat % 128 : Nat) : Int) := by
    rw [andNot128, IntKind.wrap_u64]; omega
  have e2 : IntKind.u64.wrap (((b.toNat % 128 : Nat) : Int) * 2 ^ (7 * k)) = ((b.toNat % 128 * 128 ^ k : Nat) : Int) := by
    rw [pow_int, ← Int.natCast_mul, IntKind.wrap_u64]; omega
  rw [e1, e2, bits_or_u64 acc _ (by omega) (by omega)]
  congr 1
  have e3 : b.toNat % 128 * 128 ^ k = (b.toNat % 128) <<< (7 * k) := by
    rw [Nat.shiftLeft_eq, Nat.pow_mul]
  have e4 : acc < 2 ^ (7 * k) := by rw [Nat.pow_mul]; exact ha
  rw [e3, Nat.or_comm, Nat.add_comm, Nat.shiftLeft_add_eq_or_of_lt e4]

/-- The same with a sum, as the other program has it. -/
theorem num_step_sum (acc k : Nat) (b : UInt8) (hk : k ≤ 9) (ha : acc < 128 ^ k) (h9 : 9 ≤ k → b.toNat ≤ 1) :
    acc + b.toNat % 128 * 128 ^ k < 18446744073709551616 := by
  have hb := b.toNat_lt
  have hp : 128 ^ k ≤ 128 ^ 9 := Nat.pow_le_pow_right (by decide) hk
  rcases Nat.lt_or_ge k 9 with h | h
  · have hp8 : 128 ^ k ≤ 128 ^ 8 := Nat.pow_le_pow_right (by decide) (by omega)
    have : b.toNat % 128 * 128 ^ k ≤ 127 * 128 ^ 8 := Nat.mul_le_mul (by omega) hp8
    omega
  · have := h9 h
    have : b.toNat % 128 * 128 ^ k ≤ 1 * 128 ^ 9 := Nat.mul_le_mul (by omega) hp
    omega

end Go.Proofs.Ytgilkaaholkgfaa
