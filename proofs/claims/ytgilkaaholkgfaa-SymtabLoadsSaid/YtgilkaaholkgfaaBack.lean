/-
  Plain facts: what was put is read back, and what is read is what would be put.
-/
import Derived.Test.YtgilkaaholkgfaaRdr3
namespace Go.Proofs.Ytgilkaaholkgfaa
open Go.RowKit

theorem ofNat_lt {n : Nat} (h : n < 256) : (UInt8.ofNat n).toNat = n := by
  rw [UInt8.toNat_ofNat']
  omega

theorem parseF_put (f : Nat) : ∀ (i n acc : Nat) (rest : List UInt8), i + f = 9 → n * 128 ^ i < 18446744073709551616 → (0 < i → 0 < n) →
    parseF i (putF f n ++ rest) acc = (acc + n * 128 ^ i, i + (putF f n).length, 0) := by
  induction f with
  | zero =>
    intro i n acc rest hi hn hp
    obtain rfl : i = 9 := by omega
    have h2 : n < 2 := by
      have : (128 : Nat) ^ 9 = 9223372036854775808 := by decide
      rw [this] at hn
      omega
    have hc := ofNat_lt (n := n) (by omega)
    have h0 := hp (by omega)
    simp only [putF, List.cons_append, List.nil_append, parseF, hc]
    rw [if_neg (by omega), if_neg (by omega), if_pos (by omega)]
    rfl
  | succ f ih =>
    intro i n acc rest hi hn hp
    by_cases h : n < 128
    · have hc := ofNat_lt (n := n) (by omega)
      rw [putF_lt _ _ h]
      simp only [List.cons_append, List.nil_append, parseF, hc]
      rw [if_neg (by omega), if_neg (by omega), if_pos (by omega)]
      rfl
    · rw [putF_ge _ _ (by omega)]
      have hc := ofNat_lt (n := n % 128 + 128) (by omega)
      simp only [List.cons_append, parseF, hc]
      rw [if_neg (by omega), if_neg (by omega), if_neg (by omega)]
      have hpow : 128 ^ (i + 1) = 128 * 128 ^ i := by rw [Nat.pow_succ, Nat.mul_comm]
      have hdm : n % 128 + 128 * (n / 128) = n := Nat.mod_add_div n 128
      have hsplit : n * 128 ^ i = n % 128 * 128 ^ i + n / 128 * 128 ^ (i + 1) := by
        conv => lhs; rw [← hdm]
        rw [Nat.add_mul, hpow, Nat.mul_comm 128 (n / 128), Nat.mul_assoc]
      rw [ih (i + 1) (n / 128) _ rest (by omega) (by omega) (by omega), show (n % 128 + 128) % 128 = n % 128 by omega, hsplit]
      simp only [List.length_cons]
      rw [Nat.add_assoc, show i + 1 + (putF f (n / 128)).length = i + ((putF f (n / 128)).length + 1) by omega]
/-- A number that was put is read. -/
theorem parse_put (n : Nat) (rest : List UInt8) (h : n < 18446744073709551616) : parse (putNum n ++ rest) = (n, (putNum n).length, 0) := by
  have := parseF_put 9 0 n 0 rest rfl (by simpa using h) (by omega)
  simpa [parse, putNum] using this

theorem parseF_take (bs : List UInt8) : ∀ (i acc v k : Nat), i ≤ 9 → parseF i bs acc = (v, k, 0) →
    ∃ n, v = acc + n * 128 ^ i ∧ i < k ∧ (0 < i → 0 < n) ∧ ∀ f, i + f = 9 → putF f n = bs.take (k - i) := by
  induction bs with
  | nil => intro i acc v k _ h; simp [parseF] at h
  | cons c rest ih =>
    intro i acc v k hi h
    have hcl := c.toNat_lt
    unfold parseF at h
    by_cases h1 : 9 ≤ i ∧ 1 < c.toNat
    · rw [if_pos h1] at h; simp at h
    · rw [if_neg h1] at h
      by_cases h2 : c.toNat = 0 ∧ 0 < i
      · rw [if_pos h2] at h; simp at h
      · rw [if_neg h2] at h
        have hoc : UInt8.ofNat c.toNat = c := by simp
        by_cases h3 : c.toNat < 128
        · rw [if_pos h3] at h
          simp only [Prod.mk.injEq, and_true] at h
          obtain ⟨rfl, rfl⟩ := h
          refine ⟨c.toNat, rfl, by omega, by omega, fun f _ => ?_⟩
          rw [putF_lt _ _ h3, show i + 1 - i = 1 by omega, hoc]
          rfl
        · rw [if_neg h3] at h
          obtain ⟨n, hv, hk, hp, hf⟩ := ih (i + 1) _ v k (by omega) h
          have hp' := hp (by omega)
          have hpow : 128 ^ (i + 1) = 128 * 128 ^ i := by rw [Nat.pow_succ, Nat.mul_comm]
          refine ⟨c.toNat % 128 + 128 * n, ?_, by omega, by omega, fun f hif => ?_⟩
          · rw [hv, Nat.add_mul, hpow, Nat.mul_comm 128 n, Nat.mul_assoc, Nat.add_assoc]
          · obtain ⟨f', rfl⟩ : ∃ f', f = f' + 1 := ⟨f - 1, by omega⟩
            have h4 := hf f' (by omega)
            rw [putF_ge _ _ (by omega), show (c.toNat % 128 + 128 * n) % 128 + 128 = c.toNat by omega, show (c.toNat % 128 + 128 * n) / 128 = n by omega, h4, hoc]
            rw [show k - i = (k - (i + 1)) + 1 by omega, List.take_succ_cons]
/-- What is read is what would be put. -/
theorem put_parse (bs : List UInt8) (v k : Nat) (h : parse bs = (v, k, 0)) : putNum v = bs.take k := by
  obtain ⟨n, hv, _, _, hf⟩ := parseF_take bs 0 0 v k (by omega) h
  obtain rfl : v = n := by simpa using hv
  simpa [putNum] using hf 9 rfl

/-! ## a reader of what was put -/

theorem drop_at (a b c : List UInt8) : (a ++ (b ++ c)).drop a.length = b ++ c := List.drop_left
theorem rNum_put (a rest : List UInt8) (n : Nat) (h : n < 18446744073709551616) : rNum (a ++ (putNum n ++ rest)) a.length 0 = (n, a.length + (putNum n).length, 0) := by
  unfold rNum rPeek
  rw [if_pos rfl, drop_at, parse_put n rest h]
  rfl
theorem rText_put (a rest : List UInt8) (s : ByteArray) (h : s.size < 18446744073709551616) : rText (a ++ (putStr s ++ rest)) a.length 0 s.size = (s.data.toList, a.length + (putStr s).length, 0) := by
  have hl : s.data.toList.length = s.size := by rw [Array.length_toList]; rfl
  have hp : rPeek (a ++ (putStr s ++ rest)) a.length 0 = (s.size, (putNum s.size).length, 0) := by
    unfold rPeek putStr
    rw [if_pos rfl, drop_at, List.append_assoc, parse_put s.size _ h]
    rfl
  unfold rText
  rw [hp]
  dsimp only
  rw [if_pos rfl, if_neg (by omega), if_neg (by unfold putStr; simp only [List.length_append]; omega)]
  unfold putStr
  simp only [Prod.mk.injEq, and_true]
  refine ⟨?_, by rw [List.length_append, hl]; omega⟩
  have e : a ++ (putNum s.size ++ s.data.toList ++ rest) = (a ++ putNum s.size) ++ (s.data.toList ++ rest) := by simp only [List.append_assoc]
  rw [e, show a.length + (putNum s.size).length = (a ++ putNum s.size).length by rw [List.length_append], List.drop_left, List.take_append_of_le_length (by omega), List.take_of_length_le (by omega)]

theorem split3 {α : Type} (l : List α) (k : Nat) (h : k < l.length) (f : α → List UInt8) : l.flatMap f = (l.take k).flatMap f ++ (f l[k] ++ (l.drop (k + 1)).flatMap f) := by
  conv => lhs; rw [← List.take_append_drop k l, List.drop_eq_getElem_cons h]
  rw [List.flatMap_append, List.flatMap_cons]

end Go.Proofs.Ytgilkaaholkgfaa
