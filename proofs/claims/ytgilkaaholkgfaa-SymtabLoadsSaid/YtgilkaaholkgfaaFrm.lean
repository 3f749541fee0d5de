/-
  Plain words on frames: four bytes of a number either way round, a frame, what stands at the beginning of some bytes, all frames.
-/
import Derived.Test.YtgilkaaholkgfaaCrc
namespace Go.Proofs.Ytgilkaaholkgfaa
open Go.RowKit

/-- Four bytes, the highest first. -/
def hd (n : Nat) : List UInt8 := [UInt8.ofNat (n / 16777216), UInt8.ofNat (n / 65536), UInt8.ofNat (n / 256), UInt8.ofNat n]
/-- Four bytes, the lowest first. -/
def tl (n : Nat) : List UInt8 := [UInt8.ofNat n, UInt8.ofNat (n / 256), UInt8.ofNat (n / 65536), UInt8.ofNat (n / 16777216)]
def be4 (a b c d : UInt8) : Nat := a.toNat * 16777216 + b.toNat * 65536 + c.toNat * 256 + d.toNat
theorem hd_length (n : Nat) : (hd n).length = 4 := rfl
theorem tl_length (n : Nat) : (tl n).length = 4 := rfl
theorem be4_lt (a b c d : UInt8) : be4 a b c d < 4294967296 := by
  have := a.toNat_lt; have := b.toNat_lt; have := c.toNat_lt; have := d.toNat_lt
  unfold be4; omega
theorem ofNat_eq {a : UInt8} {n : Nat} (h : n % 256 = a.toNat) : UInt8.ofNat n = a := by
  apply UInt8.toNat_inj.1
  rw [UInt8.toNat_ofNat']
  exact h
theorem hd_be4 (a b c d : UInt8) : hd (be4 a b c d) = [a, b, c, d] := by
  have := a.toNat_lt; have := b.toNat_lt; have := c.toNat_lt; have := d.toNat_lt
  unfold hd be4
  rw [ofNat_eq (a := a) (by omega), ofNat_eq (a := b) (by omega), ofNat_eq (a := c) (by omega), ofNat_eq (a := d) (by omega)]
theorem tl_be4 (a b c d : UInt8) : tl (be4 d c b a) = [a, b, c, d] := by
  have := a.toNat_lt; have := b.toNat_lt; have := c.toNat_lt; have := d.toNat_lt
  unfold tl be4
  rw [ofNat_eq (a := a) (by omega), ofNat_eq (a := b) (by omega), ofNat_eq (a := c) (by omega), ofNat_eq (a := d) (by omega)]
theorem be4_hd (n : Nat) (h : n < 4294967296) : be4 (UInt8.ofNat (n / 16777216)) (UInt8.ofNat (n / 65536)) (UInt8.ofNat (n / 256)) (UInt8.ofNat n) = n := by
  unfold be4
  simp only [UInt8.toNat_ofNat']
  omega
theorem tl_iff (n : Nat) (h : n < 4294967296) (a b c d : UInt8) : tl n = [a, b, c, d] ↔ n = be4 d c b a := by
  constructor
  · intro e
    unfold tl at e
    simp only [List.cons.injEq, and_true] at e
    obtain ⟨e1, e2, e3, e4⟩ := e
    rw [← e1, ← e2, ← e3, ← e4, be4_hd n h]
  · rintro rfl
    exact tl_be4 a b c d

/-- A frame. -/
def frame (bs : List UInt8) : List UInt8 := hd bs.length ++ bs ++ tl (crc (hd bs.length ++ bs))
theorem frame_length (bs : List UInt8) : (frame bs).length = bs.length + 8 := by
  simp [frame, hd_length, tl_length]; omega
theorem crc_lt (bs : List UInt8) : crc bs < 4294967296 := by unfold crc; omega

/-- The number of the first four bytes; the sum behind n bytes. -/
def headOf (p : List UInt8) : Nat := be4 (p.getD 0 0) (p.getD 1 0) (p.getD 2 0) (p.getD 3 0)
def sumAt (p : List UInt8) (n : Nat) : Nat := be4 (p.getD (n + 3) 0) (p.getD (n + 2) 0) (p.getD (n + 1) 0) (p.getD n 0)
/-- The frame at the beginning of p: its load, how many bytes it has, 0; or none, 0, and the error. -/
def opn (p : List UInt8) : List UInt8 × Nat × Nat :=
  if p.length < 4 then ([], 0, 3)
  else if 1048576 < headOf p then ([], 0, 1)
  else if p.length < headOf p + 8 then ([], 0, 3)
  else if crc (p.take (4 + headOf p)) = sumAt p (4 + headOf p) then ((p.drop 4).take (headOf p), headOf p + 8, 0)
  else ([], 0, 12)

theorem opn_size (p : List UInt8) (h : (opn p).2.2 = 0) : 8 ≤ (opn p).2.1 ∧ (opn p).2.1 ≤ p.length ∧ (opn p).1.length + 8 = (opn p).2.1 := by
  unfold opn at *
  split at h
  · simp at h
  · rename_i h1
    split at h
    · simp at h
    · rename_i h2
      split at h
      · simp at h
      · rename_i h3
        split at h
        · rename_i h4
          rw [if_neg h1, if_neg h2, if_neg h3, if_pos h4]
          simp only [List.length_take, List.length_drop]
          omega
        · simp at h
theorem opn_err (p : List UInt8) (h : (opn p).2.2 ≠ 0) : opn p = ([], 0, (opn p).2.2) := by
  unfold opn at *
  split
  · rfl
  · rename_i h1
    rw [if_neg h1] at h
    split
    · rfl
    · rename_i h2
      rw [if_neg h2] at h
      split
      · rfl
      · rename_i h3
        rw [if_neg h3] at h
        split
        · rename_i h4; rw [if_pos h4] at h; simp at h
        · rfl

/-- All frames from the beginning on: their loads, the place behind the last one, 0 or the error there; f: at most so many. -/
def frsF : Nat → List UInt8 → List (List UInt8) × Nat × Nat
  | 0, _ => ([], 0, 0)
  | f + 1, p =>
    if p.length = 0 then ([], 0, 0)
    else if (opn p).2.2 = 0 then
      ((opn p).1 :: (frsF f (p.drop (opn p).2.1)).1, (opn p).2.1 + (frsF f (p.drop (opn p).2.1)).2.1, (frsF f (p.drop (opn p).2.1)).2.2)
    else ([], 0, (opn p).2.2)
def frs (p : List UInt8) : List (List UInt8) × Nat × Nat := frsF p.length p

theorem frsF_more (f g : Nat) (p : List UInt8) (hf : p.length ≤ f) (hg : p.length ≤ g) : frsF f p = frsF g p := by
  induction f generalizing g p with
  | zero =>
    have : p = [] := List.eq_nil_of_length_eq_zero (by omega)
    subst this
    cases g <;> simp [frsF]
  | succ f ih =>
    cases g with
    | zero =>
      have : p = [] := List.eq_nil_of_length_eq_zero (by omega)
      subst this
      simp [frsF]
    | succ g =>
      unfold frsF
      by_cases h0 : p.length = 0
      · rw [if_pos h0, if_pos h0]
      · rw [if_neg h0, if_neg h0]
        by_cases h1 : (opn p).2.2 = 0
        · have hs := opn_size p h1
          rw [if_pos h1, if_pos h1, ih g (p.drop (opn p).2.1) (by rw [List.length_drop]; omega) (by rw [List.length_drop]; omega)]
        · rw [if_neg h1, if_neg h1]
theorem frs_nil : frs [] = ([], 0, 0) := rfl
theorem frs_err (p : List UInt8) (h0 : 0 < p.length) (h : (opn p).2.2 ≠ 0) : frs p = ([], 0, (opn p).2.2) := by
  unfold frs
  obtain ⟨n, hn⟩ : ∃ n, p.length = n + 1 := ⟨p.length - 1, by omega⟩
  rw [hn, frsF, if_neg (by omega), if_neg h]
theorem frs_ok (p : List UInt8) (h0 : 0 < p.length) (h : (opn p).2.2 = 0) :
    frs p = ((opn p).1 :: (frs (p.drop (opn p).2.1)).1, (opn p).2.1 + (frs (p.drop (opn p).2.1)).2.1, (frs (p.drop (opn p).2.1)).2.2) := by
  have hs := opn_size p h
  conv => lhs; unfold frs
  obtain ⟨n, hn⟩ : ∃ n, p.length = n + 1 := ⟨p.length - 1, by omega⟩
  rw [hn, frsF, if_neg (by omega), if_pos h]
  unfold frs
  rw [frsF_more n _ (p.drop (opn p).2.1) (by rw [List.length_drop]; omega) (Nat.le_refl _)]

end Go.Proofs.Ytgilkaaholkgfaa
