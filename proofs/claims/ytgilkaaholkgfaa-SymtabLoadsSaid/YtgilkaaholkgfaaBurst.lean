/-
  Plain facts on bits that are turned in a frame: the register as a number, the residue, bursts of at most 32 bits.
-/
import Derived.Test.YtgilkaaholkgfaaFrm
namespace Go.Proofs.Ytgilkaaholkgfaa
open Go.RowKit

/-- Bytes as one number, the lowest first. -/
def leN : List UInt8 → Nat
  | [] => 0
  | b :: bs => b.toNat ^^^ (leN bs * 2 ^ 8)

theorem crcN_add (j k c : Nat) : crcN (j + k) c = crcN k (crcN j c) := by
  induction j generalizing c with
  | zero => simp [crcN]
  | succ j ih => rw [Nat.succ_add]; exact ih _

theorem crcReg_leN (bs : List UInt8) : ∀ c : Nat, crcReg c bs = crcN (8 * bs.length) (c ^^^ leN bs) := by
  induction bs with
  | nil => intro c; simp [crcReg, leN, crcN]
  | cons b bs ih =>
    intro c
    have h : crcReg c (b :: bs) = crcReg (crcByte c b) bs := rfl
    rw [h, ih, show 8 * (b :: bs).length = 8 + 8 * bs.length by simp; omega, crcN_add, leN, ← Nat.xor_assoc, crcN_xor 8, crcN_high]
    rfl

theorem crcReg_flip (c M : Nat) (bs cs : List UInt8) (hl : cs.length = bs.length) (h : leN cs = leN bs ^^^ M) : crcReg c cs = crcReg c bs ^^^ crcN (8 * bs.length) M := by
  rw [crcReg_leN, crcReg_leN, hl, h, ← Nat.xor_assoc, crcN_xor]

theorem xor_eq_self {a b : Nat} : a ^^^ b = a ↔ b = 0 := by
  constructor
  · intro h
    have : a ^^^ (a ^^^ b) = a ^^^ a := by rw [h]
    rwa [← Nat.xor_assoc, Nat.xor_self, Nat.zero_xor] at this
  · rintro rfl; simp

theorem crcBit_zero {c : Nat} (h : c < 4294967296) (hz : crcBit c = 0) : c = 0 := by
  unfold crcBit at hz
  split at hz
  · exfalso
    have e : c / 2 = 2197175160 := by
      have h1 : (c / 2 ^^^ 2197175160) ^^^ 2197175160 = 0 ^^^ 2197175160 := by rw [hz]
      rwa [Nat.xor_assoc, Nat.xor_self, Nat.xor_zero, Nat.zero_xor] at h1
    omega
  · omega
theorem crcN_zero (k : Nat) : ∀ {c : Nat}, c < 4294967296 → crcN k c = 0 → c = 0 := by
  induction k with
  | zero => exact fun _ h => h
  | succ k ih => exact fun h hz => crcBit_zero h (ih (crcBit_lt h) hz)
theorem crcN_of_zero (k : Nat) : crcN k 0 = 0 := by
  induction k with
  | zero => rfl
  | succ k ih => exact ih
theorem crcN_inj (k : Nat) {a b : Nat} (ha : a < 4294967296) (hb : b < 4294967296) (h : crcN k a = crcN k b) : a = b := by
  have h1 : crcN k (a ^^^ b) = 0 := by rw [crcN_xor, h, Nat.xor_self]
  have h2 := crcN_zero k (Nat.xor_lt_two_pow (n := 32) (by omega) (by omega)) h1
  have h3 : (a ^^^ b) ^^^ b = 0 ^^^ b := by rw [h2]
  rwa [Nat.xor_assoc, Nat.xor_self, Nat.xor_zero, Nat.zero_xor] at h3

theorem not32_xor {a : Nat} (h : a < 4294967296) : 4294967295 - a = a ^^^ 4294967295 := by
  apply Nat.eq_of_testBit_eq
  intro i
  rw [Nat.testBit_xor, show (4294967295 : Nat) = 2 ^ 32 - 1 by decide, Nat.testBit_two_pow_sub_one]
  rw [show 2 ^ 32 - 1 - a = 2 ^ 32 - (a + 1) by omega, Nat.testBit_two_pow_sub_succ (show a < 2 ^ 32 from h)]
  rcases Nat.lt_or_ge i 32 with hi | hi
  · simp [hi]
  · have : a.testBit i = false := Nat.testBit_lt_two_pow (Nat.lt_of_lt_of_le (show a < 2 ^ 32 from h) (Nat.pow_le_pow_right (by omega) hi))
    simp [this, show ¬ i < 32 by omega]

/-- A sum of four bytes is right just if the register behind it is the residue. -/
theorem crc_residue (pre : List UInt8) (d0 d1 d2 d3 : UInt8) : crc pre = be4 d3 d2 d1 d0 ↔ crcReg 4294967295 (pre ++ [d0, d1, d2, d3]) = crcN 32 4294967295 := by
  have hr := crcReg_lt (c := 4294967295) (by omega) pre
  have hb := be4_lt d3 d2 d1 d0
  have hx : leN [d0, d1, d2, d3] = be4 d3 d2 d1 d0 := by
    have a := d0.toNat_lt; have b := d1.toNat_lt; have c := d2.toNat_lt; have d := d3.toNat_lt
    have key : ∀ (x y : Nat), x < 256 → x ^^^ (y * 2 ^ 8) = y * 256 + x := by
      intro x y hx
      have := split256 (y * 256 + x)
      rw [show (y * 256 + x) % 256 = x by omega, show (y * 256 + x) / 256 = y by omega] at this
      exact this.symm
    simp only [leN]
    rw [key _ _ d, key _ _ c, key _ _ b, key _ _ a]
    unfold be4
    omega
  rw [crcReg_append, crcReg_leN [d0, d1, d2, d3], hx]
  have hlen : 8 * [d0, d1, d2, d3].length = 32 := rfl
  rw [hlen]
  unfold crc
  generalize crcReg 4294967295 pre = r at *
  generalize be4 d3 d2 d1 d0 = s at *
  constructor
  · rintro rfl
    rw [not32_xor hr, ← Nat.xor_assoc, Nat.xor_self, Nat.zero_xor]
  · intro h
    have e := crcN_inj 32 (Nat.xor_lt_two_pow (n := 32) (by omega) (by omega)) (by omega) h
    have : r ^^^ (r ^^^ s) = r ^^^ 4294967295 := by rw [e]
    rw [← Nat.xor_assoc, Nat.xor_self, Nat.zero_xor] at this
    rw [this, not32_xor hr]

/-- Bits that are turned within 32 neighbouring ones leave no residue. -/
theorem burst_zero (L at_ M : Nat) (hM : M < 4294967296) (ha : at_ ≤ L) : crcN L (M * 2 ^ at_) = 0 ↔ M = 0 := by
  rw [show L = at_ + (L - at_) by omega, crcN_add, crcN_high]
  exact ⟨crcN_zero _ hM, fun h => by rw [h, crcN_of_zero]⟩

theorem leN_set (bs : List UInt8) : ∀ (i j : Nat) (h : i < bs.length) (_ : j < 8), leN (bs.set i (bs[i] ^^^ (1 <<< UInt8.ofNat j))) = leN bs ^^^ 2 ^ (8 * i + j) := by
  induction bs with
  | nil => intro i j h; simp at h
  | cons b bs ih =>
    intro i j h hj
    cases i with
    | zero =>
      have e : ((1 : UInt8) <<< UInt8.ofNat j).toNat = 2 ^ j := by
        rcases (show j = 0 ∨ j = 1 ∨ j = 2 ∨ j = 3 ∨ j = 4 ∨ j = 5 ∨ j = 6 ∨ j = 7 by omega) with rfl | rfl | rfl | rfl | rfl | rfl | rfl | rfl <;> rfl
      simp only [List.set_cons_zero, List.getElem_cons_zero, leN, UInt8.toNat_xor, e, Nat.mul_zero, Nat.zero_add]
      rw [Nat.xor_assoc, Nat.xor_comm (2 ^ j), ← Nat.xor_assoc]
    | succ i =>
      have hi : i < bs.length := by simpa using h
      simp only [List.set_cons_succ, List.getElem_cons_succ, leN]
      rw [ih i j hi hj]
      have hd : (leN bs ^^^ 2 ^ (8 * i + j)) * 2 ^ 8 = (leN bs * 2 ^ 8) ^^^ 2 ^ (8 * (i + 1) + j) := by
        rw [← Nat.shiftLeft_eq, Nat.shiftLeft_xor_distrib, Nat.shiftLeft_eq, Nat.shiftLeft_eq, ← Nat.pow_add, show 8 * i + j + 8 = 8 * (i + 1) + j by omega]
      rw [hd, Nat.xor_assoc]

/-- The bits of a mask that are turned by its first k places, from bit a on, in L bytes. -/
def mk (mask a L : Nat) : Nat → Nat
  | 0 => 0
  | k + 1 => if mask / 2 ^ k % 2 = 1 ∧ a + k < 8 * L then mk mask a L k ^^^ 2 ^ k else mk mask a L k
theorem mk_lt (mask a L k : Nat) : mk mask a L k < 2 ^ k := by
  induction k with
  | zero => simp [mk]
  | succ k ih =>
    have h2 : 2 ^ (k + 1) = 2 * 2 ^ k := by rw [Nat.pow_succ]; omega
    unfold mk
    split
    · exact Nat.xor_lt_two_pow (by omega) (by omega)
    · omega
theorem mk_yes {mask a L k : Nat} (h1 : mask / 2 ^ k % 2 = 1) (h2 : a + k < 8 * L) : mk mask a L (k + 1) = mk mask a L k ^^^ 2 ^ k := by
  rw [mk, if_pos ⟨h1, h2⟩]
theorem mk_no {mask a L k : Nat} (h : ¬ (mask / 2 ^ k % 2 = 1 ∧ a + k < 8 * L)) : mk mask a L (k + 1) = mk mask a L k := by
  rw [mk, if_neg h]
theorem mk_ne {mask a L k : Nat} (h1 : mask / 2 ^ k % 2 = 1) (h2 : a + k < 8 * L) : mk mask a L (k + 1) ≠ 0 := by
  rw [mk_yes h1 h2]
  intro h
  have h3 : (mk mask a L k ^^^ 2 ^ k) ^^^ 2 ^ k = 0 ^^^ 2 ^ k := by rw [h]
  rw [Nat.xor_assoc, Nat.xor_self, Nat.xor_zero, Nat.zero_xor] at h3
  have := mk_lt mask a L k
  omega
theorem mk_shift {mask a L k : Nat} (h1 : mask / 2 ^ k % 2 = 1) (h2 : a + k < 8 * L) : mk mask a L (k + 1) * 2 ^ a = (mk mask a L k * 2 ^ a) ^^^ 2 ^ (a + k) := by
  rw [mk_yes h1 h2, ← Nat.shiftLeft_eq, Nat.shiftLeft_xor_distrib, Nat.shiftLeft_eq, Nat.shiftLeft_eq, ← Nat.pow_add, Nat.add_comm k a]

theorem getD_take {l : List UInt8} {i k : Nat} (h : i < k) : (l.take k).getD i 0 = l.getD i 0 := by
  simp [List.getD, h]
theorem headOf_take (l : List UInt8) : headOf (l.take 4) = headOf l := by
  unfold headOf
  rw [getD_take (by omega), getD_take (by omega), getD_take (by omega), getD_take (by omega)]
theorem headOf_frame (p : List UInt8) (h : p.length ≤ 1048576) : headOf (frame p) = p.length := by
  have := be4_hd p.length (by omega)
  unfold headOf frame hd
  simpa using this
theorem parted (bs : List UInt8) (n : Nat) (h : bs.length = n + 8) : bs = bs.take (4 + n) ++ [bs.getD (4 + n) 0, bs.getD (4 + n + 1) 0, bs.getD (4 + n + 2) 0, bs.getD (4 + n + 3) 0] := by
  apply List.ext_getElem
  · simp; omega
  · intro i h1 h2
    rw [List.getElem_append]
    split
    · simp
    · rename_i hi
      have hi' : 4 + n ≤ i := by simp at hi; omega
      have hl : (bs.take (4 + n)).length = 4 + n := by simp; omega
      obtain ⟨j, rfl⟩ : ∃ j, i = 4 + n + j := ⟨i - (4 + n), by omega⟩
      have hj : j < 4 := by omega
      rcases (show j = 0 ∨ j = 1 ∨ j = 2 ∨ j = 3 by omega) with rfl | rfl | rfl | rfl <;>
        simp [List.getD, show 4 + n < bs.length by omega, show 4 + n + 1 < bs.length by omega, show 4 + n + 2 < bs.length by omega, show 4 + n + 3 < bs.length by omega, hl]
theorem frame_residue (p : List UInt8) : crcReg 4294967295 (frame p) = crcN 32 4294967295 := by
  unfold frame
  have h := crc_residue (hd p.length ++ p) (UInt8.ofNat (crc (hd p.length ++ p))) (UInt8.ofNat (crc (hd p.length ++ p) / 256)) (UInt8.ofNat (crc (hd p.length ++ p) / 65536)) (UInt8.ofNat (crc (hd p.length ++ p) / 16777216))
  exact h.1 (be4_hd _ (crc_lt _)).symm

/-- A frame with bits turned is opened just if none was. -/
theorem opn_flip (p bs : List UInt8) (M a : Nat) (hp : p.length ≤ 1048576) (hl : bs.length = (frame p).length) (hn : leN bs = leN (frame p) ^^^ (M * 2 ^ a)) (ht : bs.take 4 = (frame p).take 4) (hM : M < 4294967296) (ha : a ≤ 8 * (frame p).length) :
    (opn bs).2.2 = 0 ↔ M = 0 := by
  have hfl := frame_length p
  have hh : headOf bs = p.length := by rw [← headOf_take, ht, headOf_take, headOf_frame p hp]
  have hpart := parted bs p.length (by omega)
  have hres := crc_residue (bs.take (4 + p.length)) (bs.getD (4 + p.length) 0) (bs.getD (4 + p.length + 1) 0) (bs.getD (4 + p.length + 2) 0) (bs.getD (4 + p.length + 3) 0)
  rw [← hpart, crcReg_flip _ _ _ _ hl hn, frame_residue, xor_eq_self, burst_zero _ _ _ hM ha] at hres
  rw [← hres]
  unfold opn
  rw [if_neg (by omega), hh, if_neg (by omega), if_neg (by omega)]
  unfold sumAt
  split
  · rename_i h; exact ⟨fun _ => h, fun _ => rfl⟩
  · rename_i h; exact ⟨fun h' => absurd h' (by decide), fun h' => absurd h' h⟩

end Go.Proofs.Ytgilkaaholkgfaa
