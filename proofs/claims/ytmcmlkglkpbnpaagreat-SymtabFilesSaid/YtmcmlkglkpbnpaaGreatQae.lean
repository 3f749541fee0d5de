/-
  Plain words on numbers in bytes (seven bits a byte) and their zigzag; no program stands in it.
-/


namespace Go.Proofs.YtmcmlkglkpbnpaaGreat

/-- A number in the shortest form of seven bits a byte; f: how many bytes at most ahead of the last. -/
def putF : Nat → Nat → List UInt8
  | 0, n => [UInt8.ofNat n]
  | f + 1, n => if n < 128 then [UInt8.ofNat n] else UInt8.ofNat (n % 128 + 128) :: putF f (n / 128)
def putNum (n : Nat) : List UInt8 := putF 9 n

theorem putF_lt (f n : Nat) (h : n < 128) : putF f n = [UInt8.ofNat n] := by cases f <;> simp [putF, h]
theorem putF_ge (f n : Nat) (h : 128 ≤ n) : putF (f + 1) n = UInt8.ofNat (n % 128 + 128) :: putF f (n / 128) := by simp [putF, show ¬ n < 128 by omega]
theorem putF_length (f n : Nat) : (putF f n).length ≤ f + 1 := by
  induction f generalizing n with
  | zero => simp [putF]
  | succ f ih =>
    unfold putF
    split
    · simp
    · have := ih (n / 128); simp; omega
theorem putNum_length (n : Nat) : (putNum n).length ≤ 10 := putF_length 9 n
/-- What stands at the beginning of some bytes: the number, how many bytes it has, 0; or 0, 0 and the error. i: how many bytes were read; acc: what they stand for. -/
def parseF : Nat → List UInt8 → Nat → Nat × Nat × Nat
  | _, [], _ => (0, 0, 3)
  | i, c :: rest, acc =>
    if 9 ≤ i ∧ 1 < c.toNat then (0, 0, 10)
    else if c.toNat = 0 ∧ 0 < i then (0, 0, 11)
    else if c.toNat < 128 then (acc + c.toNat * 128 ^ i, i + 1, 0)
    else parseF (i + 1) rest (acc + (c.toNat % 128) * 128 ^ i)
def parse (bs : List UInt8) : Nat × Nat × Nat := parseF 0 bs 0

theorem parseF_err (i : Nat) (bs : List UInt8) (acc : Nat) : ((parseF i bs acc).2.2 = 0 ∧ i < (parseF i bs acc).2.1 ∧ (parseF i bs acc).2.1 ≤ i + bs.length) ∨ (parseF i bs acc = (0, 0, (parseF i bs acc).2.2) ∧ (parseF i bs acc).2.2 ≠ 0) := by
  induction bs generalizing i acc with
  | nil => right; simp [parseF]
  | cons c rest ih =>
    unfold parseF
    split
    · right; simp
    · split
      · right; simp
      · split
        · left; simp
        · rcases ih (i + 1) (acc + (c.toNat % 128) * 128 ^ i) with ⟨a, b, d⟩ | h
          · left; refine ⟨a, by omega, by simp only [List.length_cons]; omega⟩
          · exact .inr h
theorem parse_size (bs : List UInt8) : (parse bs).2.1 ≤ bs.length := by
  rcases parseF_err 0 bs 0 with ⟨_, _, h⟩ | ⟨h, _⟩
  · simpa [parse] using h
  · unfold parse; rw [h]; simp

/-! ## what a reader answers: its bytes bs, its place p, its error x; the answer, the place and the error behind it -/

def rPeek (bs : List UInt8) (p : Nat) (x : Int) : Nat × Nat × Int :=
  if x = 0 then ((parse (bs.drop p)).1, (parse (bs.drop p)).2.1, ((parse (bs.drop p)).2.2 : Int)) else (0, 0, x)
def rNum (bs : List UInt8) (p : Nat) (x : Int) : Nat × Nat × Int := ((rPeek bs p x).1, p + (rPeek bs p x).2.1, (rPeek bs p x).2.2)
def rText (bs : List UInt8) (p : Nat) (x most : Int) : List UInt8 × Nat × Int :=
  if (rPeek bs p x).2.2 = 0 then
    (if most < 0 ∨ most < (rPeek bs p x).1 then ([], p, 1)
     else if bs.length - p - (rPeek bs p x).2.1 < (rPeek bs p x).1 then ([], p, 3)
     else ((bs.drop (p + (rPeek bs p x).2.1)).take (rPeek bs p x).1, p + (rPeek bs p x).2.1 + (rPeek bs p x).1, 0))
  else ([], p, (rPeek bs p x).2.2)
def rFail (x e : Int) : Int := if x = 0 then e else x
def rDone (bs : List UInt8) (p : Nat) (x : Int) : Int := if x = 0 then (if p < bs.length then 4 else 0) else x

theorem rPeek_size (bs : List UInt8) (p : Nat) (x : Int) (hp : p ≤ bs.length) : p + (rPeek bs p x).2.1 ≤ bs.length := by
  have := parse_size (bs.drop p)
  rw [List.length_drop] at this
  unfold rPeek
  split <;> simp only <;> omega
theorem rPeek_err (bs : List UInt8) (p : Nat) (x : Int) (h : (rPeek bs p x).2.2 ≠ 0) : (rPeek bs p x).1 = 0 ∧ (rPeek bs p x).2.1 = 0 := by
  unfold rPeek at *
  split
  · rename_i h0
    rw [if_pos h0] at h
    rcases parseF_err 0 (bs.drop p) 0 with ⟨a, _⟩ | ⟨a, _⟩
    · exact absurd (by unfold parse; rw [a]; rfl) h
    · unfold parse; rw [a]; simp
  · simp
theorem rText_le (bs : List UInt8) (p : Nat) (x most : Int) (hp : p ≤ bs.length) : (rText bs p x most).2.1 ≤ bs.length := by
  have := rPeek_size bs p x hp
  unfold rText; split
  · split
    · exact hp
    · split <;> simp only <;> omega
  · exact hp

end Go.Proofs.YtmcmlkglkpbnpaaGreat
