/-
  Plain facts on the CRC-32C's register, bit by bit, byte by byte, and by a table of remainders.
-/
import Derived.Test.YtgilkaaholkgfaaLib
namespace Go.Proofs.Ytgilkaaholkgfaa
open Go.RowKit

/-- One move of the register. -/
def crcBit (c : Nat) : Nat := if c % 2 = 1 then (c / 2) ^^^ 2197175160 else c / 2
def crcN : Nat → Nat → Nat
  | 0, c => c
  | k + 1, c => crcN k (crcBit c)
def crcByte (c : Nat) (b : UInt8) : Nat := crcN 8 (c ^^^ b.toNat)
def crcReg (c : Nat) (bs : List UInt8) : Nat := bs.foldl crcByte c
def crc (bs : List UInt8) : Nat := 4294967295 - crcReg 4294967295 bs

theorem crcBit_lt {c : Nat} (h : c < 4294967296) : crcBit c < 4294967296 := by
  unfold crcBit
  split
  · exact Nat.xor_lt_two_pow (n := 32) (by omega) (by omega)
  · omega
theorem crcN_lt (k : Nat) : ∀ {c : Nat}, c < 4294967296 → crcN k c < 4294967296 := by
  induction k with
  | zero => exact fun h => h
  | succ k ih => exact fun h => ih (crcBit_lt h)
theorem crcByte_lt {c : Nat} (h : c < 4294967296) (b : UInt8) : crcByte c b < 4294967296 := by
  have := b.toNat_lt
  exact crcN_lt 8 (Nat.xor_lt_two_pow (n := 32) (by omega) (by omega))
theorem crcReg_lt {c : Nat} (h : c < 4294967296) (bs : List UInt8) : crcReg c bs < 4294967296 := by
  induction bs generalizing c with
  | nil => exact h
  | cons b bs ih => exact ih (crcByte_lt h b)
theorem crcReg_append (c : Nat) (a b : List UInt8) : crcReg c (a ++ b) = crcReg (crcReg c a) b := by simp [crcReg]
theorem crcReg_snoc (c : Nat) (a : List UInt8) (b : UInt8) : crcReg c (a ++ [b]) = crcByte (crcReg c a) b := by simp [crcReg]

theorem xor_mod2 (a b : Nat) : (a ^^^ b) % 2 = (a % 2 + b % 2) % 2 := by
  have h := @Nat.xor_mod_two_eq_one a b
  rcases Nat.mod_two_eq_zero_or_one a with ha | ha <;> rcases Nat.mod_two_eq_zero_or_one b with hb | hb <;> rcases Nat.mod_two_eq_zero_or_one (a ^^^ b) with hc | hc <;> rw [ha, hb, hc] <;> rw [ha, hb, hc] at h <;> simp at h ⊢
theorem crcBit_xor (a b : Nat) : crcBit (a ^^^ b) = crcBit a ^^^ crcBit b := by
  have hd : (a ^^^ b) / 2 = a / 2 ^^^ b / 2 := Nat.xor_div_two
  have hm := xor_mod2 a b
  unfold crcBit
  rw [hd]
  rcases Nat.mod_two_eq_zero_or_one a with ha | ha <;> rcases Nat.mod_two_eq_zero_or_one b with hb | hb
  · rw [if_neg (by omega), if_neg (by omega), if_neg (by omega)]
  · rw [if_pos (by omega), if_neg (by omega), if_pos (by omega), Nat.xor_assoc]
  · rw [if_pos (by omega), if_pos (by omega), if_neg (by omega), Nat.xor_assoc, Nat.xor_assoc, Nat.xor_comm (b / 2)]
  · rw [if_neg (by omega), if_pos (by omega), if_pos (by omega)]
    rw [Nat.xor_assoc, Nat.xor_comm 2197175160 (b / 2 ^^^ 2197175160), Nat.xor_assoc, Nat.xor_self, Nat.xor_zero]
theorem crcN_xor (k : Nat) : ∀ (a b : Nat), crcN k (a ^^^ b) = crcN k a ^^^ crcN k b := by
  induction k with
  | zero => exact fun _ _ => rfl
  | succ k ih => exact fun a b => by simp only [crcN, crcBit_xor, ih]
theorem crcN_high (k : Nat) : ∀ (c : Nat), crcN k (c * 2 ^ k) = c := by
  induction k with
  | zero => intro c; simp [crcN]
  | succ k ih =>
    intro c
    have h1 : crcBit (c * 2 ^ (k + 1)) = c * 2 ^ k := by
      unfold crcBit
      have e : c * 2 ^ (k + 1) = (c * 2 ^ k) * 2 := by rw [Nat.pow_succ, Nat.mul_assoc]
      rw [e]
      rw [if_neg (by omega)]
      omega
    rw [crcN, h1, ih]
theorem split256 (c : Nat) : c = (c % 256) ^^^ (c / 256 * 2 ^ 8) := by
  have h := Nat.shiftLeft_add_eq_or_of_lt (b := c % 256) (i := 8) (by omega) (c / 256)
  have h2 : (c % 256) ^^^ (c / 256 * 2 ^ 8) = (c % 256) ||| (c / 256 * 2 ^ 8) := by
    apply Nat.eq_of_testBit_eq
    intro i
    rw [Nat.testBit_xor, Nat.testBit_or]
    rcases Nat.lt_or_ge i 8 with hi | hi
    · have : (c / 256 * 2 ^ 8).testBit i = false := by rw [Nat.testBit_mul_two_pow]; simp; omega
      rw [this]; simp
    · have : (c % 256).testBit i = false := Nat.testBit_lt_two_pow (Nat.lt_of_lt_of_le (show c % 256 < 2 ^ 8 by omega) (Nat.pow_le_pow_right (by decide) hi))
      rw [this]; simp
  rw [h2, Nat.or_comm, ← Nat.shiftLeft_eq, ← h, Nat.shiftLeft_eq]
  omega
theorem crcN8_split (c : Nat) : crcN 8 c = crcN 8 (c % 256) ^^^ c / 256 := by
  conv => lhs; rw [split256 c]
  rw [crcN_xor, crcN_high]
/-- A byte by the table. -/
theorem crcByte_table (c : Nat) (b : UInt8) : crcByte c b = crcN 8 ((c % 256) ^^^ b.toNat) ^^^ c / 256 := by
  have hb := b.toNat_lt
  unfold crcByte
  rw [crcN8_split]
  have h1 : (c ^^^ b.toNat) % 256 = (c % 256) ^^^ b.toNat := by
    have := Nat.xor_mod_two_pow (a := c) (b := b.toNat) (n := 8)
    rw [show (2 : Nat) ^ 8 = 256 by decide] at this
    rw [this, Nat.mod_eq_of_lt hb]
  have h2 : (c ^^^ b.toNat) / 256 = c / 256 := by
    have := Nat.shiftRight_xor_distrib (a := c) (b := b.toNat) (i := 8)
    rw [Nat.shiftRight_eq_div_pow, Nat.shiftRight_eq_div_pow, Nat.shiftRight_eq_div_pow, show (2 : Nat) ^ 8 = 256 by decide] at this
    rw [this, show b.toNat / 256 = 0 by omega, Nat.xor_zero]
  rw [h1, h2]

/-! ## the program's words -/

theorem and_one32 (c : Nat) (h : c < 4294967296) : bits .and .u32 (c : Int) 1 = ((c % 2 : Nat) : Int) := by
  have := u32_and_nat c 1 h (by decide)
  rw [show ((1 : Nat) : Int) = 1 by rfl] at this
  rw [this, Nat.and_one_is_mod]
theorem divide_step (c : Nat) (h : c < 4294967296) :
    bits BinOp.xor IntKind.u32 ((c : Int) / 2) (bits BinOp.and IntKind.u32 2197175160 (-(bits BinOp.and IntKind.u32 (c : Int) 1) % 4294967296)) = (crcBit c : Int) := by
  rw [and_one32 c h, show ((c : Int) / 2) = ((c / 2 : Nat) : Int) by omega]
  unfold crcBit
  rcases Nat.mod_two_eq_zero_or_one c with hc | hc
  · rw [hc, if_neg (by omega)]
    have e : bits BinOp.and IntKind.u32 2197175160 (-((0 : Nat) : Int) % 4294967296) = ((0 : Nat) : Int) := by decide +kernel
    rw [e, u32_xor_nat _ _ (by omega) (by omega), Nat.xor_zero]
  · rw [hc, if_pos (by omega)]
    have e : bits BinOp.and IntKind.u32 2197175160 (-((1 : Nat) : Int) % 4294967296) = ((2197175160 : Nat) : Int) := by decide +kernel
    rw [e, u32_xor_nat _ _ (by omega) (by omega)]
theorem xor_byte32 (c : Nat) (b : UInt8) (h : c < 4294967296) : bits .xor .u32 (c : Int) (b.toNat : Int) = ((c ^^^ b.toNat : Nat) : Int) := by
  have := b.toNat_lt
  exact u32_xor_nat c _ h (by omega)
theorem table_step (c : Nat) (b : UInt8) (h : c < 4294967296) : bits .xor .u32 ((crcN 8 ((c % 256) ^^^ b.toNat) : Nat) : Int) ((c : Int) / 256) = (crcByte c b : Int) := by
  have hb := b.toNat_lt
  have hx : (c % 256) ^^^ b.toNat < 4294967296 := Nat.xor_lt_two_pow (n := 32) (by omega) (by omega)
  rw [show ((c : Int) / 256) = ((c / 256 : Nat) : Int) by omega, u32_xor_nat _ _ (crcN_lt 8 hx) (by omega), crcByte_table]
theorem xor_byte8 (c : Nat) (b : UInt8) : bits .xor .u8 ((c : Int) % 256) (b.toNat : Int) = (((c % 256) ^^^ b.toNat : Nat) : Int) := by
  have hb := b.toNat_lt
  rw [show ((c : Int) % 256) = ((c % 256 : Nat) : Int) by omega]
  exact u8_xor_nat _ _ (by omega) hb
theorem xor8_lt (c : Nat) (b : UInt8) : (c % 256) ^^^ b.toNat < 256 := Nat.xor_lt_two_pow (n := 8) (by omega) b.toNat_lt

end Go.Proofs.Ytgilkaaholkgfaa
