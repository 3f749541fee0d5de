/-
  vec's numbers: size, Mul64 by one, Div64 without a high word, fraction by one, quotient, remainder, sum.
-/
import Derived.Test.YtnilcnobngcbgaaGreatVj
import Derived.Test.YtnilcnobngcbgaaGreatWf
import Derived.Deep.RegionLaw
import Derived.Deep.CutBlock
import Derived.Deep.DeepCutAuto
namespace Go.Proofs.YtnilcnobngcbgaaGreat
open Go.RowKit
attribute [local go_sem ↓] Go.wp_at_zero Go.wp_at_succ

/-- A number that is none's null. -/
def Num64 (n : Int) : Prop := -9223372036854775807 ≤ n ∧ n ≤ 9223372036854775807

set_option maxHeartbeats 400000 in
theorem size_num (n : Int) (h : Num64 n) (w : World) : Calls Tryz.prog 140 #[.int .i64 n] w fun e w' => e = .returned (.int .u64 (n.natAbs : Nat)) ∧ w = w' := by
  obtain ⟨h1, h2⟩ := h
  by_cases h0 : 0 ≤ n
  · have HE := hide (show ((n.natAbs : Nat) : Int) = n by omega)
    have hw : IntKind.i64.wrap (-n) = -n := by rw [IntKind.wrap_i64]; omega
    have hm : max n (-n) = n := by omega
    have hm1 : ¬ n < -n := by omega
    have hm2 : -n ≤ n := by omega
    have hu : IntKind.u64.wrap n = n := by rw [IntKind.wrap_u64]; omega
    go_enter Tryz.func140, Tryz.ntmps140
    go_wp2_with fail
    go_ret
    exact ⟨by show Ending.returned (.int .u64 n) = _; rw [HE.out], rfl⟩
  · have HE := hide (show ((n.natAbs : Nat) : Int) = -n by omega)
    have hw : IntKind.i64.wrap (-n) = -n := by rw [IntKind.wrap_i64]; omega
    have hm : max n (-n) = -n := by omega
    have hm1 : n < -n := by omega
    have hm2 : ¬ -n ≤ n := by omega
    have hu : IntKind.u64.wrap (-n) = -n := by rw [IntKind.wrap_u64]; omega
    go_enter Tryz.func140, Tryz.ntmps140
    go_wp2_with fail
    go_ret
    exact ⟨by show Ending.returned (.int .u64 (-n)) = _; rw [HE.out], rfl⟩
theorem and_low32 (x : Nat) (h : x < 18446744073709551616) : bits .and .u64 (x : Int) 4294967295 = ((x % 4294967296 : Nat) : Int) := by
  show IntKind.u64.wrap ((BitVec.ofInt 64 (x : Int) &&& BitVec.ofInt 64 4294967295).toNat : Int) = _
  have e : BitVec.ofInt 64 4294967295 = BitVec.ofNat 64 4294967295 := by decide
  rw [e, BitVec.ofInt_natCast, BitVec.toNat_and, BitVec.toNat_ofNat, BitVec.toNat_ofNat, Nat.mod_eq_of_lt (by omega : x < 2 ^ 64), Nat.mod_eq_of_lt (by decide : 4294967295 < 2 ^ 64),
    show 4294967295 = 2 ^ 32 - 1 by decide, Nat.and_two_pow_sub_one_eq_mod, IntKind.wrap_u64]
  omega
set_option maxHeartbeats 1000000 in
theorem mul_one (x : Nat) (h : x < 9223372036854775808) (w : World) : Calls Tryz.prog 139 #[.int .u64 (x : Int), .int .u64 1] w fun e w' => e = .returned (.tuple #[.int .u64 0, .int .u64 (x : Int)]) ∧ w = w' := by
  have a1 := and_low32 x (by omega)
  have a2 : bits .and .u64 1 4294967295 = 1 := by decide
  have a3 := and_low32 (x / 4294967296) (by omega)
  obtain ⟨lo, hlo⟩ : ∃ lo, lo = x % 4294967296 := ⟨_, rfl⟩
  obtain ⟨hi, hhi⟩ : ∃ hi, hi = x / 4294967296 := ⟨_, rfl⟩
  have b1 : ((x : Int) / 4294967296) = (hi : Int) := by omega
  have b2 : lo < 4294967296 := by omega
  have b3 : hi < 4294967296 := by omega
  have a3' : bits .and .u64 (hi : Int) 4294967295 = (hi : Int) := by rw [hhi, a3]; omega
  rw [← hlo] at a1
  have b4 : ((lo : Int) / 4294967296) = 0 := by omega
  have b5 : ((hi : Int) / 4294967296) = 0 := by omega
  have c1 : IntKind.u64.wrap (lo : Int) = (lo : Int) := by rw [IntKind.wrap_u64]; omega
  have c2 : IntKind.u64.wrap (hi : Int) = (hi : Int) := by rw [IntKind.wrap_u64]; omega
  have c3 : IntKind.u64.wrap (x : Int) = (x : Int) := by rw [IntKind.wrap_u64]; omega
  have c4 : IntKind.u64.wrap 0 = 0 := by decide
  have c5 : IntKind.u64.wrap 1 = 1 := by decide
  clear hlo hhi a3 b2 b3 h
  go_enter Tryz.func139, Tryz.ntmps139
  go_wp2_with fail
  exact bodyPost_ret (v := .tuple #[.int .u64 0, .int .u64 (x : Int)]) (by simp [results, Tryz.results139, go_sem]) rfl ⟨rfl, rfl⟩
set_option maxHeartbeats 1000000 in
theorem div_low (lo y : Nat) (hl : lo ≤ 18446744073709551615) (hy : 0 < y) (hy2 : y ≤ 18446744073709551615) (w : World) :
    Calls Tryz.prog 141 #[.int .u64 0, .int .u64 (lo : Int), .int .u64 (y : Int)] w fun e w' => e = .returned (.tuple #[.int .u64 ((lo / y : Nat) : Int), .int .u64 ((lo % y : Nat) : Int)]) ∧ w.grownBy w' none := by
  have y0 : ((y : Int) == 0) = false := by rw [beq_eq_false_iff_ne]; omega
  have y1 : ¬ (y : Int) ≤ 0 := by omega
  have y2 : y ≠ 0 := by omega
  have q1 : (lo : Int).tdiv (y : Int) = ((lo / y : Nat) : Int) := by rw [Int.tdiv_eq_ediv_of_nonneg (by omega)]; rfl
  have q2 : (lo : Int).tmod (y : Int) = ((lo % y : Nat) : Int) := by rw [Int.tmod_eq_emod_of_nonneg (by omega)]; rfl
  have q4 := Nat.div_le_self lo y
  generalize lo / y = dq at *
  generalize lo % y = dr at *
  have q3 : IntKind.u64.wrap (dq : Int) = (dq : Int) := by rw [IntKind.wrap_u64]; omega
  clear q4
  go_enter Tryz.func141, Tryz.ntmps141
  go_wp2_with fail
  go_region_law (fail)
  all_goals
    go_wp2_with fail
    exact bodyPost_ret (v := .tuple #[.int .u64 (dq : Int), .int .u64 (dr : Int)]) (by simp [results, Tryz.results141, go_sem]) rfl ⟨rfl, gb_drew (gb_refl w none)⟩
/-- The quotient, rounded down. -/
def flq (a c : Int) : Int := if (decide (a < 0) != decide (c < 0)) = true then -((a.natAbs / c.natAbs + (if 0 < a.natAbs % c.natAbs then 1 else 0) : Nat) : Int) else ((a.natAbs / c.natAbs : Nat) : Int)
/-- What it leaves. -/
def rmq (a b : Int) : Int := if a.tmod b ≠ 0 ∧ (decide (a.tmod b < 0) != decide (b < 0)) = true then a.tmod b + b else a.tmod b
theorem tmod_abs (a b : Int) : a.tmod b = if a < 0 then -((a.natAbs % b.natAbs : Nat) : Int) else ((a.natAbs % b.natAbs : Nat) : Int) := by
  obtain ⟨m, rfl | rfl⟩ := a.eq_nat_or_neg
  · obtain ⟨k, rfl | rfl⟩ := b.eq_nat_or_neg
    · rw [if_neg (by omega)]; rfl
    · rw [if_neg (by omega), Int.tmod_neg, Int.natAbs_neg]; rfl
  · by_cases h : m = 0
    · subst h; simp
    rw [if_pos (by omega), Int.neg_tmod, Int.natAbs_neg]
    obtain ⟨k, rfl | rfl⟩ := b.eq_nat_or_neg
    · rfl
    · rw [Int.tmod_neg, Int.natAbs_neg]; rfl
theorem flq_rmq (a b : Int) (hb : b ≠ 0) : flq a b * b + rmq a b = a ∧ ((0 < b ∧ 0 ≤ rmq a b ∧ rmq a b < b) ∨ (b < 0 ∧ rmq a b ≤ 0 ∧ b < rmq a b)) := by
  have hm : b.natAbs * (a.natAbs / b.natAbs) + a.natAbs % b.natAbs = a.natAbs := Nat.div_add_mod _ _
  have hr : a.natAbs % b.natAbs < b.natAbs := Nat.mod_lt _ (by omega)
  have ht := tmod_abs a b
  unfold flq rmq
  rw [ht]
  generalize a.natAbs / b.natAbs = n at *
  generalize a.natAbs % b.natAbs = r at *
  clear ht
  have hm' : (b.natAbs : Int) * (n : Int) + (r : Int) = (a.natAbs : Int) := by exact_mod_cast hm
  clear hm
  by_cases ha : a < 0 <;> by_cases hc : b < 0
  · have e1 : (a.natAbs : Int) = -a := by omega
    have e2 : (b.natAbs : Int) = -b := by omega
    rw [e1, e2] at hm'
    have e3 : -b * (n : Int) = -((n : Int) * b) := by rw [Int.neg_mul, Int.mul_comm]
    rw [e3] at hm'
    simp only [if_pos ha, decide_eq_true ha, decide_eq_true hc, bne_self_eq_false, Bool.false_eq_true, if_false]
    generalize (n : Int) * b = nb at *
    split
    · rename_i h
      by_cases h0 : -(r : Int) < 0
      · rw [decide_eq_true h0] at h; simp at h
      · omega
    · omega
  · have e1 : (a.natAbs : Int) = -a := by omega
    have e2 : (b.natAbs : Int) = b := by omega
    rw [e1, e2] at hm'
    rw [Int.mul_comm] at hm'
    simp only [if_pos ha, decide_eq_true ha, decide_eq_false hc, Bool.true_bne, Bool.not_false, if_true]
    by_cases hr0 : 0 < r
    · rw [if_pos hr0, if_pos ⟨by omega, by rw [decide_eq_true (by omega)]; rfl⟩]
      have : -((n + 1 : Nat) : Int) * b = -((n : Int) * b) - b := by
        rw [Int.natCast_add, Int.neg_mul, Int.add_mul]; simp; omega
      rw [this]
      generalize (n : Int) * b = nb at *
      omega
    · obtain rfl : r = 0 := by omega
      rw [if_neg hr0, if_neg (fun h => h.1 (by simp))]
      have : -((n + 0 : Nat) : Int) * b = -((n : Int) * b) := by rw [Nat.add_zero, Int.neg_mul]
      rw [this]
      generalize (n : Int) * b = nb at *
      omega
  · have e1 : (a.natAbs : Int) = a := by omega
    have e2 : (b.natAbs : Int) = -b := by omega
    rw [e1, e2] at hm'
    have e3 : -b * (n : Int) = -((n : Int) * b) := by rw [Int.neg_mul, Int.mul_comm]
    rw [e3] at hm'
    simp only [if_neg ha, decide_eq_false ha, decide_eq_true hc, Bool.false_bne, if_true]
    by_cases hr0 : 0 < r
    · rw [if_pos hr0, if_pos ⟨by omega, by rw [decide_eq_false (by omega)]; rfl⟩]
      have : -((n + 1 : Nat) : Int) * b = -((n : Int) * b) - b := by
        rw [Int.natCast_add, Int.neg_mul, Int.add_mul]; simp; omega
      rw [this]
      generalize (n : Int) * b = nb at *
      omega
    · obtain rfl : r = 0 := by omega
      rw [if_neg hr0, if_neg (fun h => h.1 (by simp))]
      have : -((n + 0 : Nat) : Int) * b = -((n : Int) * b) := by rw [Nat.add_zero, Int.neg_mul]
      rw [this]
      generalize (n : Int) * b = nb at *
      omega
  · have e1 : (a.natAbs : Int) = a := by omega
    have e2 : (b.natAbs : Int) = b := by omega
    rw [e1, e2] at hm'
    rw [Int.mul_comm] at hm'
    simp only [if_neg ha, decide_eq_false ha, decide_eq_false hc, bne_self_eq_false, Bool.false_eq_true, if_false]
    generalize (n : Int) * b = nb at *
    split
    · rename_i h
      by_cases h0 : (r : Int) < 0
      · omega
      · rw [decide_eq_false h0] at h; simp at h
    · omega
end Go.Proofs.YtnilcnobngcbgaaGreat
