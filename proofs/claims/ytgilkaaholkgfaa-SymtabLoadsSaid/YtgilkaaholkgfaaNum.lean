/-
  Plain words on numbers in bytes (seven bits a byte) and their zigzag; no program stands in it.
-/
namespace Go.Proofs.Ytgilkaaholkgfaa

/-- A number in the shortest form of seven bits a byte; f: how many bytes at most ahead of the last. -/
def putF : Nat → Nat → List UInt8
  | 0, n => [UInt8.ofNat n]
  | f + 1, n => if n < 128 then [UInt8.ofNat n] else UInt8.ofNat (n % 128 + 128) :: putF f (n / 128)
def putNum (n : Nat) : List UInt8 := putF 9 n

theorem putF_lt (f n : Nat) (h : n < 128) : putF f n = [UInt8.ofNat n] := by cases f <;> simp [putF, h]
theorem putF_ge (f n : Nat) (h : 128 ≤ n) : putF (f + 1) n = UInt8.ofNat (n % 128 + 128) :: putF f (n / 128) := by simp [putF, show ¬ n < 128 by omega]
theorem putF_length (f n : Nat) : (putF f n).length ≤ f + 1 := by
  induction f generalizing n with
  | zero => simp [putF]
  | succ f ih =>
    unfold putF
    split
    · simp
    · have := ih (n / 128); simp; omega
theorem putNum_length (n : Nat) : (putNum n).length ≤ 10 := putF_length 9 n
/-- With fuel enough, more makes no difference. -/
theorem putF_more (f g n : Nat) (hf : n < 128 ^ (f + 1)) (hg : f ≤ g) : putF g n = putF f n := by
  induction f generalizing g n with
  | zero => rw [putF_lt g n (by simpa using hf)]; rfl
  | succ f ih =>
    cases g with
    | zero => omega
    | succ g =>
      by_cases h : n < 128
      · rw [putF_lt _ _ h, putF_lt _ _ h]
      · rw [putF_ge _ _ (by omega), putF_ge _ _ (by omega), ih g (n / 128) (Nat.div_lt_of_lt_mul (by rw [Nat.pow_succ] at hf; omega)) (by omega)]

/-- Numbers one behind the other. -/
def putAll (l : List Nat) : List UInt8 := l.flatMap putNum
theorem putAll_snoc (l : List Nat) (n : Nat) : putAll (l ++ [n]) = putAll l ++ putNum n := by simp [putAll]
theorem putAll_length (l : List Nat) : (putAll l).length ≤ 10 * l.length := by
  induction l with
  | nil => simp [putAll]
  | cons a l ih => have := putNum_length a; simp [putAll] at *; omega

/-- The number that stands for a signed one: 2n, or -2n - 1. -/
def zig (n : Int) : Nat := if n < 0 then (-2 * n - 1).toNat else (2 * n).toNat
theorem zig_lt (n : Int) (h0 : -9223372036854775808 ≤ n) (h1 : n ≤ 9223372036854775807) : zig n < 18446744073709551616 := by unfold zig; split <;> omega

/-- Texts, each with its length ahead. -/
def putTexts (l : List (List UInt8)) : List UInt8 := l.flatMap fun s => putNum s.length ++ s
theorem putTexts_snoc (l : List (List UInt8)) (s : List UInt8) : putTexts (l ++ [s]) = putTexts l ++ (putNum s.length ++ s) := by simp [putTexts]

/-- What stands at the beginning of some bytes: the number, how many bytes it has, 0; or 0, 0 and the error. i: how many bytes were read; acc: what they stand for. -/
def parseF : Nat → List UInt8 → Nat → Nat × Nat × Nat
  | _, [], _ => (0, 0, 3)
  | i, c :: rest, acc =>
    if 9 ≤ i ∧ 1 < c.toNat then (0, 0, 10)
    else if c.toNat = 0 ∧ 0 < i then (0, 0, 11)
    else if c.toNat < 128 then (acc + c.toNat * 128 ^ i, i + 1, 0)
    else parseF (i + 1) rest (acc + (c.toNat % 128) * 128 ^ i)
def parse (bs : List UInt8) : Nat × Nat × Nat := parseF 0 bs 0

theorem parseF_err (i : Nat) (bs : List UInt8) (acc : Nat) : ((parseF i bs acc).2.2 = 0 ∧ i < (parseF i bs acc).2.1 ∧ (parseF i bs acc).2.1 ≤ i + bs.length) ∨ (parseF i bs acc = (0, 0, (parseF i bs acc).2.2) ∧ (parseF i bs acc).2.2 ≠ 0) := by
  induction bs generalizing i acc with
  | nil => right; simp [parseF]
  | cons c rest ih =>
    unfold parseF
    split
    · right; simp
    · split
      · right; simp
      · split
        · left; simp
        · rcases ih (i + 1) (acc + (c.toNat % 128) * 128 ^ i) with ⟨a, b, d⟩ | h
          · left; refine ⟨a, by omega, by simp only [List.length_cons]; omega⟩
          · exact .inr h
theorem parse_size (bs : List UInt8) : (parse bs).2.1 ≤ bs.length := by
  rcases parseF_err 0 bs 0 with ⟨_, _, h⟩ | ⟨h, _⟩
  · simpa [parse] using h
  · unfold parse; rw [h]; simp

/-- The numbers that are read have 64 bits. -/
theorem parseF_lt (i : Nat) (bs : List UInt8) (acc : Nat) (hi : i ≤ 9) (ha : acc < 128 ^ i) : (parseF i bs acc).1 < 18446744073709551616 := by
  induction bs generalizing i acc with
  | nil => simp [parseF]
  | cons c rest ih =>
    unfold parseF
    have hc := c.toNat_lt
    have hp : 128 ^ i ≤ 128 ^ 9 := Nat.pow_le_pow_right (by decide) hi
    split
    · simp
    · rename_i h1
      split
      · simp
      · rename_i h2
        split
        · rename_i h3
          rcases Nat.lt_or_ge i 9 with h9 | h9
          · have hp8 : 128 ^ i ≤ 128 ^ 8 := Nat.pow_le_pow_right (by decide) (by omega)
            have : c.toNat * 128 ^ i ≤ 127 * 128 ^ 8 := Nat.mul_le_mul (by omega) hp8
            simp only
            omega
          · have : c.toNat * 128 ^ i ≤ 1 * 128 ^ 9 := Nat.mul_le_mul (by omega) hp
            simp only
            omega
        · rename_i h3
          rcases Nat.lt_or_ge i 9 with h9 | h9
          · refine ih (i + 1) _ (by omega) ?_
            have : (c.toNat % 128) * 128 ^ i ≤ 127 * 128 ^ i := Nat.mul_le_mul (by omega) (Nat.le_refl _)
            rw [Nat.pow_succ]
            omega
          · omega
theorem parse_lt (bs : List UInt8) : (parse bs).1 < 18446744073709551616 := parseF_lt 0 bs 0 (by omega) (by simp)

/-! ## what a reader answers: its bytes bs, its place p, its error x; the answer, the place and the error behind it -/

def rPeek (bs : List UInt8) (p : Nat) (x : Int) : Nat × Nat × Int :=
  if x = 0 then ((parse (bs.drop p)).1, (parse (bs.drop p)).2.1, ((parse (bs.drop p)).2.2 : Int)) else (0, 0, x)
def rNum (bs : List UInt8) (p : Nat) (x : Int) : Nat × Nat × Int := ((rPeek bs p x).1, p + (rPeek bs p x).2.1, (rPeek bs p x).2.2)
def rByte (bs : List UInt8) (p : Nat) (x : Int) : Nat × Nat × Int :=
  if x = 0 then (if p < bs.length then ((bs.getD p 0).toNat, p + 1, 0) else (0, p, 3)) else (0, p, x)
def rCount (bs : List UInt8) (p : Nat) (x most : Int) : Nat × Nat × Int :=
  if (rPeek bs p x).2.2 = 0 then (if most < 0 ∨ most < (rPeek bs p x).1 then (0, p, 1) else ((rPeek bs p x).1, p + (rPeek bs p x).2.1, 0)) else (0, p, (rPeek bs p x).2.2)
def rText (bs : List UInt8) (p : Nat) (x most : Int) : List UInt8 × Nat × Int :=
  if (rPeek bs p x).2.2 = 0 then
    (if most < 0 ∨ most < (rPeek bs p x).1 then ([], p, 1)
     else if bs.length - p - (rPeek bs p x).2.1 < (rPeek bs p x).1 then ([], p, 3)
     else ((bs.drop (p + (rPeek bs p x).2.1)).take (rPeek bs p x).1, p + (rPeek bs p x).2.1 + (rPeek bs p x).1, 0))
  else ([], p, (rPeek bs p x).2.2)
def rFail (x e : Int) : Int := if x = 0 then e else x
def rDone (bs : List UInt8) (p : Nat) (x : Int) : Int := if x = 0 then (if p < bs.length then 4 else 0) else x

theorem rPeek_size (bs : List UInt8) (p : Nat) (x : Int) (hp : p ≤ bs.length) : p + (rPeek bs p x).2.1 ≤ bs.length := by
  have := parse_size (bs.drop p)
  rw [List.length_drop] at this
  unfold rPeek
  split <;> simp only <;> omega
theorem rPeek_err (bs : List UInt8) (p : Nat) (x : Int) (h : (rPeek bs p x).2.2 ≠ 0) : (rPeek bs p x).1 = 0 ∧ (rPeek bs p x).2.1 = 0 := by
  unfold rPeek at *
  split
  · rename_i h0
    rw [if_pos h0] at h
    rcases parseF_err 0 (bs.drop p) 0 with ⟨a, _⟩ | ⟨a, _⟩
    · exact absurd (by unfold parse; rw [a]; rfl) h
    · unfold parse; rw [a]; simp
  · simp
theorem rPeek_lt (bs : List UInt8) (p : Nat) (x : Int) : (rPeek bs p x).1 < 18446744073709551616 := by
  unfold rPeek
  split
  · exact parse_lt _
  · simp
theorem rNum_le (bs : List UInt8) (p : Nat) (x : Int) (hp : p ≤ bs.length) : (rNum bs p x).2.1 ≤ bs.length := rPeek_size bs p x hp
theorem rByte_le (bs : List UInt8) (p : Nat) (x : Int) (hp : p ≤ bs.length) : (rByte bs p x).2.1 ≤ bs.length := by
  unfold rByte; split
  · split <;> simp only <;> omega
  · exact hp
theorem rCount_le (bs : List UInt8) (p : Nat) (x most : Int) (hp : p ≤ bs.length) : (rCount bs p x most).2.1 ≤ bs.length := by
  have := rPeek_size bs p x hp
  unfold rCount; split
  · split <;> simp only <;> omega
  · exact hp
theorem rText_le (bs : List UInt8) (p : Nat) (x most : Int) (hp : p ≤ bs.length) : (rText bs p x most).2.1 ≤ bs.length := by
  have := rPeek_size bs p x hp
  unfold rText; split
  · split
    · exact hp
    · split <;> simp only <;> omega
  · exact hp

end Go.Proofs.Ytgilkaaholkgfaa
