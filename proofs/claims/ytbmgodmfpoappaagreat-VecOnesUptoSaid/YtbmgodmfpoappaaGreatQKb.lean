/-
  vec.fraction by one, quotient, remainder, sum: their contracts.
-/
import Derived.Test.YtbmgodmfpoappaaGreatQKa
import Derived.Deep.RegionLaw
import Derived.Deep.CutBlock
import Derived.Deep.DeepCutAuto
namespace Go.Proofs.YtbmgodmfpoappaaGreat
open Go.RowKit
attribute [local go_sem ↓] Go.wp_at_zero Go.wp_at_succ
def Num64 (n : Int) : Prop := -9223372036854775807 ≤ n ∧ n ≤ 9223372036854775807
set_option maxHeartbeats 400000 in
theorem size_num (n : Int) (h : Num64 n) (w : World) : Calls Tryz.prog 139 #[.int .i64 n] w fun e w' => e = .returned (.int .u64 (n.natAbs : Nat)) ∧ w = w' := by
 obtain ⟨h1, h2⟩ := h
 by_cases h0 : 0 ≤ n
 ·have HE := hide (show ((n.natAbs : Nat) : Int) = n by omega)
  have hw : IntKind.i64.wrap (-n) = -n := by rw [IntKind.wrap_i64]; omega
  have hm : max n (-n) = n := by omega
  have hm1 : ¬ n < -n := by omega
  have hm2 : -n ≤ n := by omega
  have hu : IntKind.u64.wrap n = n := by rw [IntKind.wrap_u64]; omega
  go_enter Tryz.func139, Tryz.ntmps139
  go_wp2_with fail
  go_ret
  exact ⟨by show Ending.returned (.int .u64 n) = _; rw [HE.out], rfl⟩
 ·have HE := hide (show ((n.natAbs : Nat) : Int) = -n by omega)
  have hw : IntKind.i64.wrap (-n) = -n := by rw [IntKind.wrap_i64]; omega
  have hm : max n (-n) = -n := by omega
  have hm1 : n < -n := by omega
  have hm2 : ¬ -n ≤ n := by omega
  have hu : IntKind.u64.wrap (-n) = -n := by rw [IntKind.wrap_u64]; omega
  go_enter Tryz.func139, Tryz.ntmps139
  go_wp2_with fail
  go_ret
  exact ⟨by show Ending.returned (.int .u64 (-n)) = _; rw [HE.out], rfl⟩
theorem and_low32 (x : Nat) (h : x < 18446744073709551616) : bits .and .u64 (x : Int) 4294967295 = ((x % 4294967296 : Nat) : Int) := by
 show IntKind.u64.wrap ((BitVec.ofInt 64 (x : Int) &&& BitVec.ofInt 64 4294967295).toNat : Int) = _
 have e : BitVec.ofInt 64 4294967295 = BitVec.ofNat 64 4294967295 := by decide
 rw [e, BitVec.ofInt_natCast, BitVec.toNat_and, BitVec.toNat_ofNat, BitVec.toNat_ofNat, Nat.mod_eq_of_lt (by omega : x < 2 ^ 64), Nat.mod_eq_of_lt (by decide : 4294967295 < 2 ^ 64),
  show 4294967295 = 2 ^ 32 - 1 by decide, Nat.and_two_pow_sub_one_eq_mod, IntKind.wrap_u64]
 omega
set_option maxHeartbeats 1000000 in
theorem mul_one (x : Nat) (h : x < 9223372036854775808) (w : World) : Calls Tryz.prog 138 #[.int .u64 (x : Int), .int .u64 1] w fun e w' => e = .returned (.tuple #[.int .u64 0, .int .u64 (x : Int)]) ∧ w = w' := by
 have a1 := and_low32 x (by omega)
 have a2 : bits .and .u64 1 4294967295 = 1 := by decide
 have a3 := and_low32 (x / 4294967296) (by omega)
 obtain ⟨lo, hlo⟩ : ∃ lo, lo = x % 4294967296 := ⟨_, rfl⟩
 obtain ⟨hi, hhi⟩ : ∃ hi, hi = x / 4294967296 := ⟨_, rfl⟩
 have b1 : ((x : Int) / 4294967296) = (hi : Int) := by omega
 have b2 : lo < 4294967296 := by omega
 have b3 : hi < 4294967296 := by omega
 have a3' : bits .and .u64 (hi : Int) 4294967295 = (hi : Int) := by rw [hhi, a3]; omega
 rw [← hlo] at a1
 have b4 : ((lo : Int) / 4294967296) = 0 := by omega
 have b5 : ((hi : Int) / 4294967296) = 0 := by omega
 have c1 : IntKind.u64.wrap (lo : Int) = (lo : Int) := by rw [IntKind.wrap_u64]; omega
 have c2 : IntKind.u64.wrap (hi : Int) = (hi : Int) := by rw [IntKind.wrap_u64]; omega
 have c3 : IntKind.u64.wrap (x : Int) = (x : Int) := by rw [IntKind.wrap_u64]; omega
 have c4 : IntKind.u64.wrap 0 = 0 := by decide
 have c5 : IntKind.u64.wrap 1 = 1 := by decide
 clear hlo hhi a3 b2 b3 h
 go_enter Tryz.func138, Tryz.ntmps138
 go_wp2_with fail
 exact bodyPost_ret (v := .tuple #[.int .u64 0, .int .u64 (x : Int)]) (by simp [results, Tryz.results138, go_sem]) rfl ⟨rfl, rfl⟩
set_option maxHeartbeats 1000000 in
theorem div_low (lo y : Nat) (hl : lo ≤ 18446744073709551615) (hy : 0 < y) (hy2 : y ≤ 18446744073709551615) (w : World) :
  Calls Tryz.prog 140 #[.int .u64 0, .int .u64 (lo : Int), .int .u64 (y : Int)] w fun e w' => e = .returned (.tuple #[.int .u64 ((lo / y : Nat) : Int), .int .u64 ((lo % y : Nat) : Int)]) ∧ w.grownBy w' none := by
 have y0 : ((y : Int) == 0) = false := by rw [beq_eq_false_iff_ne]; omega
 have y1 : ¬ (y : Int) ≤ 0 := by omega
 have y2 : y ≠ 0 := by omega
 have q1 : (lo : Int).tdiv (y : Int) = ((lo / y : Nat) : Int) := by rw [Int.tdiv_eq_ediv_of_nonneg (by omega)]; rfl
 have q2 : (lo : Int).tmod (y : Int) = ((lo % y : Nat) : Int) := by rw [Int.tmod_eq_emod_of_nonneg (by omega)]; rfl
 have q4 := Nat.div_le_self lo y
 generalize lo / y = dq at *
 generalize lo % y = dr at *
 have q3 : IntKind.u64.wrap (dq : Int) = (dq : Int) := by rw [IntKind.wrap_u64]; omega
 clear q4
 go_enter Tryz.func140, Tryz.ntmps140
 go_wp2_with fail
 go_region_law (fail)
 all_goals
  go_wp2_with fail
  exact bodyPost_ret (v := .tuple #[.int .u64 (dq : Int), .int .u64 (dr : Int)]) (by simp [results, Tryz.results140, go_sem]) rfl ⟨rfl, gb_drew (gb_refl w none)⟩
def flq (a c : Int) : Int := if (decide (a < 0) != decide (c < 0)) = true then -((a.natAbs / c.natAbs + (if 0 < a.natAbs % c.natAbs then 1 else 0) : Nat) : Int) else ((a.natAbs / c.natAbs : Nat) : Int)
def rmq (a b : Int) : Int := if a.tmod b ≠ 0 ∧ (decide (a.tmod b < 0) != decide (b < 0)) = true then a.tmod b + b else a.tmod b
theorem tmod_abs (a b : Int) : a.tmod b = if a < 0 then -((a.natAbs % b.natAbs : Nat) : Int) else ((a.natAbs % b.natAbs : Nat) : Int) := by
 obtain ⟨m, rfl | rfl⟩ := a.eq_nat_or_neg
 ·obtain ⟨k, rfl | rfl⟩ := b.eq_nat_or_neg
  ·rw [if_neg (by omega)]; rfl
  ·rw [if_neg (by omega), Int.tmod_neg, Int.natAbs_neg]; rfl
 ·by_cases h : m = 0
  ·subst h; simp
  rw [if_pos (by omega), Int.neg_tmod, Int.natAbs_neg]
  obtain ⟨k, rfl | rfl⟩ := b.eq_nat_or_neg
  ·rfl
  ·rw [Int.tmod_neg, Int.natAbs_neg]; rfl
end Go.Proofs.YtbmgodmfpoappaaGreat
namespace Go.Proofs.YtbmgodmfpoappaaGreat
open Go.RowKit
attribute [local go_sem ↓] Go.wp_at_zero Go.wp_at_succ
set_option maxHeartbeats 2000000 in
set_option maxRecDepth 100000 in
theorem frac_one (a c : Int) (ha : Num64 a) (hc : Num64 c) (h0 : c ≠ 0) (w : World) : Calls Tryz.prog 112 #[.int .i64 a, .int .i64 1, .int .i64 c] w fun e w' => e = .returned (.tuple #[.int .i64 (flq a c), .bool true]) ∧ w.grownBy w' none := by
 have S1 := hide (fun w2 => size_num a ha w2)
 have S2 := hide (fun w2 => (show Calls Tryz.prog 139 #[.int .i64 1] w2 fun e w' => e = .returned (.int .u64 1) ∧ w2 = w' from size_num 1 ⟨by decide, by decide⟩ w2))
 have S3 := hide (fun w2 => size_num c hc w2)
 have hx : a.natAbs < 9223372036854775808 := by have := ha.1; have := ha.2; omega
 have hy : c.natAbs < 9223372036854775808 := by have := hc.1; have := hc.2; omega
 have hy0 : 0 < c.natAbs := by omega
 have M := hide (fun w2 => mul_one a.natAbs hx w2)
 have D := hide (fun w2 => div_low a.natAbs c.natAbs (by omega) hy0 (by omega) w2)
 obtain ⟨q, hqe⟩ : ∃ q, q = flq a c := ⟨_, rfl⟩
 have hqd : q = if (decide (a < 0) != decide (c < 0)) = true then -((a.natAbs / c.natAbs + (if 0 < a.natAbs % c.natAbs then 1 else 0) : Nat) : Int) else ((a.natAbs / c.natAbs : Nat) : Int) := hqe
 rw [← hqe]
 have hq := Nat.div_le_self a.natAbs c.natAbs
 have hq2 : 0 < a.natAbs % c.natAbs → a.natAbs / c.natAbs ≤ 4611686018427387904 := by
  intro h
  have h2 : 2 ≤ c.natAbs := by
   rcases Nat.lt_or_ge c.natAbs 2 with h' | h'
   ·have : c.natAbs = 1 := by omega
    rw [this, Nat.mod_one] at h
    omega
   ·exact h'
  have := Nat.div_le_div_left h2 (by decide) (a := a.natAbs)
  omega
 clear hqe
 generalize a.natAbs / c.natAbs = n at *
 generalize a.natAbs % c.natAbs = r at *
 have hy1 : ¬ (c.natAbs : Int) ≤ 0 := by omega
 have hy2 : (0 : Int) < (c.natAbs : Int) := by omega
 generalize c.natAbs = y at *
 generalize a.natAbs = x at *
 have hn : n < 9223372036854775808 := by omega
 by_cases ha0 : a < 0 <;> by_cases hc0 : c < 0
 ·have t1 : decide (a < 0) = true := decide_eq_true ha0
  have t2 : decide (c < 0) = true := decide_eq_true hc0
  rw [t1, t2] at hqd
  clear ha0 hc0
  rw [if_neg (by decide)] at hqd
  have u1 : IntKind.u64.wrap 9223372036854775807 = 9223372036854775807 := by decide
  have u2 : decide ((9223372036854775807 : Int) < (n : Int)) = false := decide_eq_false (by omega)
  have u4 : IntKind.i64.wrap (n : Int) = (n : Int) := by rw [IntKind.wrap_i64]; omega
  have HF := hide (show (n : Int) = q by rw [hqd])
  clear hq hq2 ha hc hx hy hy0 h0 hn hqd
  go_enter Tryz.func112, Tryz.ntmps112
  go_wp2_with (first
   | (go_at_call 139; (with_reducible refine (S1.out _).mono ?_); rintro e w1 ⟨rfl, rfl⟩)
   | (go_at_call 139; (with_reducible refine (S2.out _).mono ?_); rintro e w1 ⟨rfl, rfl⟩)
   | (go_at_call 139; (with_reducible refine (S3.out _).mono ?_); rintro e w1 ⟨rfl, rfl⟩)
   | (go_at_call 138; refine (M.out _).mono ?_; rintro e w1 ⟨rfl, rfl⟩)
   | (go_at_call 140; refine (D.out _).mono ?_; rintro e w1 ⟨rfl, hg1⟩; have HG := hide hg1; clear hg1))
  exact bodyPost_ret (v := .tuple #[.int .i64 (n : Int), .bool true]) (by simp [results, Tryz.results112, go_sem]) rfl ⟨by rw [HF.out], HG.out⟩
 ·have t1 : decide (a < 0) = true := decide_eq_true ha0
  have t2 : decide (c < 0) = false := decide_eq_false hc0
  rw [t1, t2] at hqd
  clear ha0 hc0
  rw [if_pos (by rfl)] at hqd
  by_cases hr : 0 < r
  ·have r1 : (0 : Int) < (r : Int) := by omega
   rw [if_pos hr] at hqd
   have hq3 := hq2 hr
   have u1 : IntKind.u64.wrap 9223372036854775806 = 9223372036854775806 := by decide
   have u2 : decide ((9223372036854775806 : Int) < (n : Int)) = false := decide_eq_false (by omega)
   obtain ⟨m, hme⟩ : ∃ m : Nat, m = n + 1 := ⟨_, rfl⟩
   have u0 : (n : Int) + 1 = (m : Int) := by omega
   have u3 : IntKind.u64.wrap (m : Int) = (m : Int) := by rw [IntKind.wrap_u64]; omega
   have u4 : IntKind.i64.wrap (m : Int) = (m : Int) := by rw [IntKind.wrap_i64]; omega
   have u5 : IntKind.i64.wrap (-(m : Int)) = -(m : Int) := by rw [IntKind.wrap_i64]; omega
   have HF := hide (show -(m : Int) = q by rw [hqd]; omega)
   clear hq3 hr hme
   clear hq hq2 ha hc hx hy hy0 h0 hn hqd
   go_enter Tryz.func112, Tryz.ntmps112
   go_wp2_with (first
    | (go_at_call 139; (with_reducible refine (S1.out _).mono ?_); rintro e w1 ⟨rfl, rfl⟩)
    | (go_at_call 139; (with_reducible refine (S2.out _).mono ?_); rintro e w1 ⟨rfl, rfl⟩)
    | (go_at_call 139; (with_reducible refine (S3.out _).mono ?_); rintro e w1 ⟨rfl, rfl⟩)
    | (go_at_call 138; refine (M.out _).mono ?_; rintro e w1 ⟨rfl, rfl⟩)
    | (go_at_call 140; refine (D.out _).mono ?_; rintro e w1 ⟨rfl, hg1⟩; have HG := hide hg1; clear hg1))
   exact bodyPost_ret (v := .tuple #[.int .i64 (-(m : Int)), .bool true]) (by simp [results, Tryz.results112, go_sem]) rfl ⟨by rw [HF.out], HG.out⟩
  ·obtain rfl : r = 0 := by omega
   rw [if_neg hr] at hqd
   have u1 : IntKind.u64.wrap 9223372036854775807 = 9223372036854775807 := by decide
   have u2 : decide ((9223372036854775807 : Int) < (n : Int)) = false := decide_eq_false (by omega)
   have u3 : IntKind.u64.wrap (n : Int) = (n : Int) := by rw [IntKind.wrap_u64]; omega
   have u4 : IntKind.i64.wrap (n : Int) = (n : Int) := by rw [IntKind.wrap_i64]; omega
   have u5 : IntKind.i64.wrap (-(n : Int)) = -(n : Int) := by rw [IntKind.wrap_i64]; omega
   have HF := hide (show -(n : Int) = q by rw [hqd]; omega)
   clear hr
   clear hq hq2 ha hc hx hy hy0 h0 hn hqd
   go_enter Tryz.func112, Tryz.ntmps112
   go_wp2_with (first
    | (go_at_call 139; (with_reducible refine (S1.out _).mono ?_); rintro e w1 ⟨rfl, rfl⟩)
    | (go_at_call 139; (with_reducible refine (S2.out _).mono ?_); rintro e w1 ⟨rfl, rfl⟩)
    | (go_at_call 139; (with_reducible refine (S3.out _).mono ?_); rintro e w1 ⟨rfl, rfl⟩)
    | (go_at_call 138; refine (M.out _).mono ?_; rintro e w1 ⟨rfl, rfl⟩)
    | (go_at_call 140; refine (D.out _).mono ?_; rintro e w1 ⟨rfl, hg1⟩; have HG := hide hg1; clear hg1))
   exact bodyPost_ret (v := .tuple #[.int .i64 (-(n : Int)), .bool true]) (by simp [results, Tryz.results112, go_sem]) rfl ⟨by rw [HF.out], HG.out⟩
 ·have t1 : decide (a < 0) = false := decide_eq_false ha0
  have t2 : decide (c < 0) = true := decide_eq_true hc0
  rw [t1, t2] at hqd
  clear ha0 hc0
  rw [if_pos (by rfl)] at hqd
  by_cases hr : 0 < r
  ·have r1 : (0 : Int) < (r : Int) := by omega
   rw [if_pos hr] at hqd
   have hq3 := hq2 hr
   have u1 : IntKind.u64.wrap 9223372036854775806 = 9223372036854775806 := by decide
   have u2 : decide ((9223372036854775806 : Int) < (n : Int)) = false := decide_eq_false (by omega)
   obtain ⟨m, hme⟩ : ∃ m : Nat, m = n + 1 := ⟨_, rfl⟩
   have u0 : (n : Int) + 1 = (m : Int) := by omega
   have u3 : IntKind.u64.wrap (m : Int) = (m : Int) := by rw [IntKind.wrap_u64]; omega
   have u4 : IntKind.i64.wrap (m : Int) = (m : Int) := by rw [IntKind.wrap_i64]; omega
   have u5 : IntKind.i64.wrap (-(m : Int)) = -(m : Int) := by rw [IntKind.wrap_i64]; omega
   have HF := hide (show -(m : Int) = q by rw [hqd]; omega)
   clear hq3 hr hme
   clear hq hq2 ha hc hx hy hy0 h0 hn hqd
   go_enter Tryz.func112, Tryz.ntmps112
   go_wp2_with (first
    | (go_at_call 139; (with_reducible refine (S1.out _).mono ?_); rintro e w1 ⟨rfl, rfl⟩)
    | (go_at_call 139; (with_reducible refine (S2.out _).mono ?_); rintro e w1 ⟨rfl, rfl⟩)
    | (go_at_call 139; (with_reducible refine (S3.out _).mono ?_); rintro e w1 ⟨rfl, rfl⟩)
    | (go_at_call 138; refine (M.out _).mono ?_; rintro e w1 ⟨rfl, rfl⟩)
    | (go_at_call 140; refine (D.out _).mono ?_; rintro e w1 ⟨rfl, hg1⟩; have HG := hide hg1; clear hg1))
   exact bodyPost_ret (v := .tuple #[.int .i64 (-(m : Int)), .bool true]) (by simp [results, Tryz.results112, go_sem]) rfl ⟨by rw [HF.out], HG.out⟩
  ·obtain rfl : r = 0 := by omega
   rw [if_neg hr] at hqd
   have u1 : IntKind.u64.wrap 9223372036854775807 = 9223372036854775807 := by decide
   have u2 : decide ((9223372036854775807 : Int) < (n : Int)) = false := decide_eq_false (by omega)
   have u3 : IntKind.u64.wrap (n : Int) = (n : Int) := by rw [IntKind.wrap_u64]; omega
   have u4 : IntKind.i64.wrap (n : Int) = (n : Int) := by rw [IntKind.wrap_i64]; omega
   have u5 : IntKind.i64.wrap (-(n : Int)) = -(n : Int) := by rw [IntKind.wrap_i64]; omega
   have HF := hide (show -(n : Int) = q by rw [hqd]; omega)
   clear hr
   clear hq hq2 ha hc hx hy hy0 h0 hn hqd
   go_enter Tryz.func112, Tryz.ntmps112
   go_wp2_with (first
    | (go_at_call 139; (with_reducible refine (S1.out _).mono ?_); rintro e w1 ⟨rfl, rfl⟩)
    | (go_at_call 139; (with_reducible refine (S2.out _).mono ?_); rintro e w1 ⟨rfl, rfl⟩)
    | (go_at_call 139; (with_reducible refine (S3.out _).mono ?_); rintro e w1 ⟨rfl, rfl⟩)
    | (go_at_call 138; refine (M.out _).mono ?_; rintro e w1 ⟨rfl, rfl⟩)
    | (go_at_call 140; refine (D.out _).mono ?_; rintro e w1 ⟨rfl, hg1⟩; have HG := hide hg1; clear hg1))
   exact bodyPost_ret (v := .tuple #[.int .i64 (-(n : Int)), .bool true]) (by simp [results, Tryz.results112, go_sem]) rfl ⟨by rw [HF.out], HG.out⟩
 ·have t1 : decide (a < 0) = false := decide_eq_false ha0
  have t2 : decide (c < 0) = false := decide_eq_false hc0
  rw [t1, t2] at hqd
  clear ha0 hc0
  rw [if_neg (by decide)] at hqd
  have u1 : IntKind.u64.wrap 9223372036854775807 = 9223372036854775807 := by decide
  have u2 : decide ((9223372036854775807 : Int) < (n : Int)) = false := decide_eq_false (by omega)
  have u4 : IntKind.i64.wrap (n : Int) = (n : Int) := by rw [IntKind.wrap_i64]; omega
  have HF := hide (show (n : Int) = q by rw [hqd])
  clear hq hq2 ha hc hx hy hy0 h0 hn hqd
  go_enter Tryz.func112, Tryz.ntmps112
  go_wp2_with (first
   | (go_at_call 139; (with_reducible refine (S1.out _).mono ?_); rintro e w1 ⟨rfl, rfl⟩)
   | (go_at_call 139; (with_reducible refine (S2.out _).mono ?_); rintro e w1 ⟨rfl, rfl⟩)
   | (go_at_call 139; (with_reducible refine (S3.out _).mono ?_); rintro e w1 ⟨rfl, rfl⟩)
   | (go_at_call 138; refine (M.out _).mono ?_; rintro e w1 ⟨rfl, rfl⟩)
   | (go_at_call 140; refine (D.out _).mono ?_; rintro e w1 ⟨rfl, hg1⟩; have HG := hide hg1; clear hg1))
  exact bodyPost_ret (v := .tuple #[.int .i64 (n : Int), .bool true]) (by simp [results, Tryz.results112, go_sem]) rfl ⟨by rw [HF.out], HG.out⟩
def quoI (a b : Int) : Int := if b = 0 then -9223372036854775808 else flq a b
def remI (a b : Int) : Int := if b = 0 then -9223372036854775808 else rmq a b
set_option maxHeartbeats 1000000 in
theorem quo_any (a b : Int) (ha : Num64 a) (hb : Num64 b) (g : Nat) (w : World) (hg : w.cell? ⟨g, 0, none⟩ = some (.int .i64 1)) :
  Calls Tryz.prog 144 #[.int .i64 a, .int .i64 b, .pointer (some ⟨g, 0, none⟩)] w fun e w' => e = .returned (.tuple #[.int .i64 (quoI a b), .bool true]) ∧ w.grownBy w' none := by
 by_cases h0 : b = 0
 ·subst h0
  go_enter Tryz.func144, Tryz.ntmps144
  go_wp2_with fail
  exact bodyPost_ret (v := .tuple #[.int .i64 (-9223372036854775808), .bool true]) (by simp [results, Tryz.results144, go_sem]) rfl ⟨rfl, gb_refl w none⟩
 ·have F := hide (fun w2 => frac_one a b ha hb h0 w2)
  have HQ := hide (show quoI a b = flq a b by unfold quoI; rw [if_neg h0])
  have b0 := int_beq_f h0
  clear ha hb h0
  generalize flq a b = q at *
  go_enter Tryz.func144, Tryz.ntmps144
  go_wp2_with (go_at_call 112; refine (F.out _).mono ?_; rintro e w1 ⟨rfl, hg1⟩; have HG := hide hg1; clear hg1)
  exact bodyPost_ret (v := .tuple #[.int .i64 q, .bool true]) (by simp [results, Tryz.results144, go_sem]) rfl ⟨by rw [HQ.out], HG.out⟩
set_option maxHeartbeats 1000000 in
set_option maxRecDepth 100000 in
theorem rem_any (a b : Int) (hb : Num64 b) (w : World) :
  Calls Tryz.prog 57 #[.int .i64 a, .int .i64 b] w fun e w' => e = .returned (.tuple #[.int .i64 (remI a b), .bool true]) ∧ w = w' := by
 by_cases h0 : b = 0
 ·subst h0
  go_enter Tryz.func57, Tryz.ntmps57
  go_wp2_with fail
  exact bodyPost_ret (v := .tuple #[.int .i64 (-9223372036854775808), .bool true]) (by simp [results, Tryz.results57, go_sem]) rfl ⟨rfl, rfl⟩
 ·have HQ := hide (show remI a b = rmq a b by unfold remI; rw [if_neg h0])
  have b0 := int_beq_f h0
  have ht := tmod_abs a b
  have hlt : a.natAbs % b.natAbs < b.natAbs := Nat.mod_lt _ (by omega)
  have hb1 := hb.1
  have hb2 := hb.2
  obtain ⟨r, hre⟩ : ∃ r, r = a.tmod b := ⟨_, rfl⟩
  have hrr : -9223372036854775807 ≤ r ∧ r ≤ 9223372036854775807 := by
   rw [hre, ht]
   split <;> omega
  have hqd : rmq a b = if r ≠ 0 ∧ (decide (r < 0) != decide (b < 0)) = true then r + b else r := by rw [hre]; rfl
  obtain ⟨q, hqe⟩ : ∃ q, q = rmq a b := ⟨_, rfl⟩
  rw [← hqe] at hqd HQ
  have q0 : a.tmod b = r := hre.symm
  have q1 : IntKind.i64.wrap r = r := by rw [IntKind.wrap_i64]; omega
  clear hqe hre ht hlt hb
  by_cases hr0 : r = 0
  ·subst hr0
   rw [if_neg (fun h => h.1 rfl)] at hqd
   have HF := hide hqd
   clear hqd hrr hb1 hb2
   go_enter Tryz.func57, Tryz.ntmps57
   go_wp2_with fail
   exact bodyPost_ret (v := .tuple #[.int .i64 0, .bool true]) (by simp [results, Tryz.results57, go_sem]) rfl ⟨by rw [HQ.out, HF.out], rfl⟩
  ·have e1 : (r != 0) = true := int_bne_f hr0
   by_cases hs : (decide (r < 0) != decide (b < 0)) = true
   ·rw [if_pos ⟨hr0, hs⟩] at hqd
    obtain ⟨m, hme⟩ : ∃ m, m = r + b := ⟨_, rfl⟩
    have q2 : r + b = m := hme.symm
    have q3 : IntKind.i64.wrap m = m := by
     rw [hme, IntKind.wrap_i64]
     by_cases h1 : r < 0 <;> by_cases h2 : b < 0
     ·rw [decide_eq_true h1, decide_eq_true h2] at hs; cases hs
     ·omega
     ·omega
     ·rw [decide_eq_false h1, decide_eq_false h2] at hs; cases hs
    rw [q2] at hqd
    have HF := hide hqd
    clear hqd hrr hb1 hb2 hr0 hme
    cases h1 : decide (r < 0) <;> cases h2 : decide (b < 0) <;> rw [h1, h2] at hs
    ·cases hs
    ·clear hs
     go_enter Tryz.func57, Tryz.ntmps57
     go_wp2_with fail
     exact bodyPost_ret (v := .tuple #[.int .i64 m, .bool true]) (by simp [results, Tryz.results57, go_sem]) rfl ⟨by rw [HQ.out, HF.out], rfl⟩
    ·clear hs
     go_enter Tryz.func57, Tryz.ntmps57
     go_wp2_with fail
     exact bodyPost_ret (v := .tuple #[.int .i64 m, .bool true]) (by simp [results, Tryz.results57, go_sem]) rfl ⟨by rw [HQ.out, HF.out], rfl⟩
    ·cases hs
   ·rw [if_neg (fun h => hs h.2)] at hqd
    have HF := hide hqd
    clear hqd hrr hb1 hb2 hr0
    cases h1 : decide (r < 0) <;> cases h2 : decide (b < 0) <;> rw [h1, h2] at hs
    ·clear hs
     go_enter Tryz.func57, Tryz.ntmps57
     go_wp2_with fail
     exact bodyPost_ret (v := .tuple #[.int .i64 r, .bool true]) (by simp [results, Tryz.results57, go_sem]) rfl ⟨by rw [HQ.out, HF.out], rfl⟩
    ·exact absurd rfl hs
    ·exact absurd rfl hs
    ·clear hs
     go_enter Tryz.func57, Tryz.ntmps57
     go_wp2_with fail
     exact bodyPost_ret (v := .tuple #[.int .i64 r, .bool true]) (by simp [results, Tryz.results57, go_sem]) rfl ⟨by rw [HQ.out, HF.out], rfl⟩
set_option maxHeartbeats 1000000 in
set_option maxRecDepth 100000 in
theorem sum_ok (a b : Int) (hs : Num64 (a + b)) (w : World) :
  Calls Tryz.prog 119 #[.int .i64 a, .int .i64 b] w fun e w' => e = .returned (.tuple #[.int .i64 (a + b), .bool true]) ∧ w = w' := by
 obtain ⟨m, hme⟩ : ∃ m, m = a + b := ⟨_, rfl⟩
 have q0 : a + b = m := hme.symm
 rw [q0] at hs ⊢
 have q1 : IntKind.i64.wrap m = m := by rw [IntKind.wrap_i64]; have := hs.1; have := hs.2; omega
 have e0 : (m == -9223372036854775808) = false := int_beq_f (by have := hs.1; omega)
 have e1 : (decide (a < m) != decide (0 < b)) = false := by
  by_cases h : 0 < b
  ·rw [decide_eq_true h, decide_eq_true (by omega)]; rfl
  ·rw [decide_eq_false h, decide_eq_false (by omega)]; rfl
 clear hme hs
 cases h1 : decide (a < m) <;> cases h2 : decide (0 < b) <;> rw [h1, h2] at e1
 ·clear e1
  go_enter Tryz.func119, Tryz.ntmps119
  go_wp2_with fail
  exact bodyPost_ret (v := .tuple #[.int .i64 m, .bool true]) (by simp [results, Tryz.results119, go_sem]) rfl ⟨rfl, rfl⟩
 ·cases e1
 ·cases e1
 ·clear e1
  go_enter Tryz.func119, Tryz.ntmps119
  go_wp2_with fail
  exact bodyPost_ret (v := .tuple #[.int .i64 m, .bool true]) (by simp [results, Tryz.results119, go_sem]) rfl ⟨rfl, rfl⟩
end Go.Proofs.YtbmgodmfpoappaaGreat
