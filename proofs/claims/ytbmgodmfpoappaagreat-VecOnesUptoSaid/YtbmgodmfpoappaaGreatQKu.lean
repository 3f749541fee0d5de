/-
  Numbers made decs and ints by the program: toDec, toInt.
-/
import Derived.Test.YtbmgodmfpoappaaGreatQKb
import Derived.Test.YtbmgodmfpoappaaGreatQKc
namespace Go.Proofs.YtbmgodmfpoappaaGreat
open Go.RowKit
attribute [local go_sem ↓] Go.wp_at_zero Go.wp_at_succ
theorem w64u {n : Int} (h0 : 0 ≤ n) (h1 : n < 18446744073709551616) : IntKind.u64.wrap n = n := by rw [IntKind.wrap_u64]; omega
theorem or_bit (a b : Nat) (hb : b < 2) (h : a * 2 + b < 18446744073709551616) : bits .or .u64 ((a * 2 : Nat) : Int) (b : Int) = ((a * 2 + b : Nat) : Int) := by
 show IntKind.u64.wrap ((BitVec.ofInt 64 ((a * 2 : Nat) : Int) ||| BitVec.ofInt 64 (b : Int)).toNat : Int) = _
 have hb' : b < 2 ^ 1 := hb
 rw [BitVec.ofInt_natCast, BitVec.ofInt_natCast, BitVec.toNat_or, BitVec.toNat_ofNat, BitVec.toNat_ofNat, Nat.mod_eq_of_lt (by omega : a * 2 < 2 ^ 64), Nat.mod_eq_of_lt (by omega : b < 2 ^ 64),
  show a * 2 = a * 2 ^ 1 from rfl, ← Nat.shiftLeft_eq, ← Nat.shiftLeft_add_eq_or_of_lt hb', Nat.shiftLeft_eq, IntKind.wrap_u64]
 omega
theorem and_bit (x : Nat) (h : x < 18446744073709551616) : bits .and .u64 (x : Int) 1 = ((x % 2 : Nat) : Int) := by
 show IntKind.u64.wrap ((BitVec.ofInt 64 (x : Int) &&& BitVec.ofInt 64 1).toNat : Int) = _
 have e : BitVec.ofInt 64 1 = BitVec.ofNat 64 1 := by decide
 rw [e, BitVec.ofInt_natCast, BitVec.toNat_and, BitVec.toNat_ofNat, BitVec.toNat_ofNat, Nat.mod_eq_of_lt (by omega : x < 2 ^ 64), Nat.mod_eq_of_lt (by decide : 1 < 2 ^ 64),
  show 1 = 2 ^ 1 - 1 by decide, Nat.and_two_pow_sub_one_eq_mod, IntKind.wrap_u64]
 omega
theorem bit_step (a j : Nat) : a / 2 ^ j = 2 * (a / 2 ^ (j + 1)) + a / 2 ^ j % 2 := by
 have : a / 2 ^ (j + 1) = a / 2 ^ j / 2 := by rw [Nat.pow_succ, Nat.div_div_eq_div_mul]
 rw [this]
 omega
theorem pl_dbl (h l h2 t l2 P : Nat) (hE : h * 18446744073709551616 + l = P) (ht : t = l / 9223372036854775808) (hl2 : l2 = l * 2 % 18446744073709551616) (hh2 : h2 = h * 2 + t) : h2 * 18446744073709551616 + l2 = 2 * P := by
 have e1 := Nat.div_add_mod l 9223372036854775808
 rw [← ht] at e1
 obtain ⟨m, hm⟩ : ∃ m, m = l % 9223372036854775808 := ⟨_, rfl⟩
 have hm2 : m < 9223372036854775808 := by rw [hm]; exact Nat.mod_lt _ (by decide)
 rw [← hm] at e1
 have e2 : l2 = 2 * m := by
  rw [hl2, show l * 2 = 2 * m + 18446744073709551616 * t by omega, Nat.add_mul_mod_self_left, Nat.mod_eq_of_lt (by omega)]
 clear ht hl2 hm
 subst hh2 hE e2 e1
 omega
set_option maxRecDepth 100000 in
theorem pl_add (h2 l2 P b s : Nat) (hE : h2 * 18446744073709551616 + l2 = 2 * P) (hs : s = (l2 + b) % 18446744073709551616) (hc : l2 + b < 18446744073709551616) : h2 * 18446744073709551616 + s = 2 * P + b := by omega
theorem pl_car (h2 l2 P b s h3 : Nat) (hE : h2 * 18446744073709551616 + l2 = 2 * P) (hs : s = (l2 + b) % 18446744073709551616) (hc : ¬ l2 + b < 18446744073709551616) (hb : b < 18446744073709551616) (hl2 : l2 < 18446744073709551616) (hh3 : h3 = h2 + 1) : h3 * 18446744073709551616 + s = 2 * P + b := by
 have e : l2 + b = 18446744073709551616 + s := by
  rw [hs, Nat.mod_eq_sub_mod (by omega), Nat.mod_eq_of_lt (by omega)]; omega
 clear hs hc hb hl2
 rw [← hE, hh3, Nat.add_mul, Nat.one_mul]
 generalize h2 * 18446744073709551616 = X
 omega
set_option maxHeartbeats 2000000 in
set_option maxRecDepth 100000 in
theorem rMul_any (a b : Nat) (ha : a < 18446744073709551616) (hb : b < 18446744073709551616) (w : World) :
  Calls Tryz.prog 76 #[.int .u64 (a : Int), .int .u64 (b : Int)] w fun e w' => e = .returned (.tuple #[.int .u64 ((a * b / 18446744073709551616 : Nat) : Int), .int .u64 ((a * b % 18446744073709551616 : Nat) : Int)]) ∧ w = w' := by
 have HA := hide ha
 have HB := hide hb
 have a64 : a / 2 ^ (63 + 1) = 0 := Nat.div_eq_of_lt ha
 have HS := hide (show 0 * 18446744073709551616 + 0 = a / 2 ^ (63 + 1) * b by rw [a64]; simp)
 clear ha hb a64
 go_enter Tryz.func76, Tryz.ntmps76
 go_wp2_with fail
 go_loopw [6, 7, 8] (fun H L I wr => ∃ h l : Nat, H = .int .u64 (h : Int) ∧ L = .int .u64 (l : Int) ∧ Hid (l < 18446744073709551616) ∧ ((∃ j : Nat, j < 64 ∧ I = .int .i64 (j : Int) ∧ Hid (h * 18446744073709551616 + l = a / 2 ^ (j + 1) * b)) ∨ (I = .int .i64 (-1) ∧ Hid (h * 18446744073709551616 + l = a * b))) ∧ w = wr) (fun _ _ I _ => (intOf I + 1).toNat)
 case atStart => exact ⟨0, 0, rfl, rfl, hide (by decide), .inl ⟨63, by decide, rfl, HS⟩, rfl⟩
 case round =>
  obtain ⟨h, l, rfl, rfl, HL, hI, rfl⟩ := hrel
  rcases hI with ⟨j, hj, rfl, HE⟩ | ⟨rfl, HE⟩
  ·obtain ⟨bt, hbt⟩ : ∃ bt, bt = a / 2 ^ j % 2 := ⟨_, rfl⟩
   have hstep := bit_step a j
   rw [← hbt] at hstep
   obtain ⟨A, hA⟩ : ∃ A, A = a / 2 ^ (j + 1) := ⟨_, rfl⟩
   obtain ⟨D, hD⟩ : ∃ D, D = a / 2 ^ j := ⟨_, rfl⟩
   have hE := HE.out
   rw [← hA] at hE hstep
   rw [← hD] at hstep
   have hDa : D ≤ a := by rw [hD]; exact Nat.div_le_self _ _
   have ha := HA.out
   have hb := HB.out
   have hl := HL.out
   have hPb : D * b ≤ 18446744073709551615 * 18446744073709551615 := Nat.mul_le_mul (by omega) (by omega)
   have hPe : D * b = 2 * (A * b) + bt * b := by rw [hstep, Nat.add_mul, Nat.mul_assoc]
   obtain ⟨P, hP⟩ : ∃ P, P = A * b := ⟨_, rfl⟩
   rw [← hP] at hE hPe
   have hbt2 : bt < 2 := by rw [hbt]; omega
   have hle : 2 * P ≤ 18446744073709551615 * 18446744073709551615 := by omega
   obtain ⟨t, ht⟩ : ∃ t, t = l / 9223372036854775808 := ⟨_, rfl⟩
   obtain ⟨l2, hl2⟩ : ∃ l2, l2 = l * 2 % 18446744073709551616 := ⟨_, rfl⟩
   have h63 : h < 9223372036854775808 := by omega
   have f1 : IntKind.u64.wrap ((h : Int) * 2) = ((h * 2 : Nat) : Int) := by rw [w64u (by omega) (by omega)]; omega
   have f2 : (l : Int) / 9223372036854775808 = (t : Int) := by omega
   have f3 : bits .or .u64 ((h * 2 : Nat) : Int) (t : Int) = ((h * 2 + t : Nat) : Int) := or_bit h t (by omega) (by omega)
   obtain ⟨h2, hh2⟩ : ∃ h2, h2 = h * 2 + t := ⟨_, rfl⟩
   rw [← hh2] at f3
   have f4 : IntKind.u64.wrap ((l : Int) * 2) = (l2 : Int) := by rw [IntKind.wrap_u64]; omega
   have f5 : IntKind.u64.wrap (j : Int) = (j : Int) := w64u (by omega) (by omega)
   have c2 : (0 : Int) ≤ (j : Int) := by omega
   have c3 : (j : Int) ≤ 64 := by omega
   have c3' : ¬ (64 : Int) < (j : Int) := by omega
   have c4 : ((j : Int)).toNat = j := Int.toNat_natCast j
   obtain ⟨T, hT⟩ : ∃ T, T = 2 ^ j := ⟨_, rfl⟩
   have hTi : (2 : Int) ^ j = (T : Int) := by rw [hT]; norm_cast
   have f6 : (a : Int) / (T : Int) = (D : Int) := by rw [hD, ← hT]; norm_cast
   have f7 : bits .and .u64 (D : Int) 1 = (bt : Int) := by rw [and_bit D (by omega), hbt, hD]
   have f8 : IntKind.i64.wrap ((j : Int) - 1) = (j : Int) - 1 := by rw [IntKind.wrap_i64]; omega
   have hex : h2 * 18446744073709551616 + l2 = 2 * P := pl_dbl h l h2 t l2 P hE ht hl2 hh2
   generalize h * 2 = hdd at f1 f3
   have HJ := hide hj
   have HIx : Hid (∀ h l : Nat, h * 18446744073709551616 + l = D * b → (∃ j' : Nat, j' < 64 ∧ Value.int .i64 ((j : Int) - 1) = .int .i64 (j' : Int) ∧ Hid (h * 18446744073709551616 + l = a / 2 ^ (j' + 1) * b)) ∨ (Value.int .i64 ((j : Int) - 1) = .int .i64 (-1) ∧ Hid (h * 18446744073709551616 + l = a * b))) := hide (by
    intro h l hh
    rcases Nat.eq_zero_or_pos j with h0 | h0
    ·refine .inr ⟨by rw [h0]; rfl, hide ?_⟩
     rw [hh, hD, h0]
     simp
    ·refine .inl ⟨j - 1, by omega, by rw [show (j : Int) - 1 = ((j - 1 : Nat) : Int) by omega], hide ?_⟩
     rw [hh, hD, show j - 1 + 1 = j by omega])
   rcases (show bt = 0 ∨ bt = 1 by omega) with h0 | h1
   ·have HEX := hide (show h2 * 18446744073709551616 + l2 = D * b by rw [hPe, h0, hex]; omega)
    have HL2 := hide (show l2 < 18446744073709551616 by omega)
    have f9 : ((bt : Int) == 1) = false := by rw [beq_eq_false_iff_ne]; omega
    clear hj hbt hstep hE hDa ha hb hl hPb hPe hP hbt2 hle ht hl2 h63 hh2 hT hex h0 hA hD HE HL
    go_wp2_with fail
    go_roundw
    case rel => exact ⟨h2, l2, rfl, rfl, HL2, HIx.out h2 l2 HEX.out, trivial⟩
    case measure => simp [intOf]
   ·have f9 : ((bt : Int) == 1) = true := by rw [beq_iff_eq]; omega
    obtain ⟨s, hs⟩ : ∃ s, s = (l2 + b) % 18446744073709551616 := ⟨_, rfl⟩
    have g1 : IntKind.u64.wrap ((l2 : Int) + (b : Int)) = (s : Int) := by rw [IntKind.wrap_u64]; omega
    have hpe2 : D * b = 2 * P + b := by rw [hPe, h1, Nat.one_mul]
    by_cases hc : l2 + b < 18446744073709551616
    ·have g2 : ¬ (s : Int) < (l2 : Int) := by omega
     have HEX := hide (show h2 * 18446744073709551616 + s = D * b by rw [hpe2]; exact pl_add h2 l2 P b s hex hs hc)
     have HL2 := hide (show s < 18446744073709551616 by omega)
     clear hj hbt hstep hE hDa ha hb hl hPb hPe hP hbt2 hle ht hl2 h63 hh2 hT hex h1 hA hD HE HL hs hpe2 hc
     go_wp2_with fail
     go_roundw
     case rel => exact ⟨h2, s, rfl, rfl, HL2, HIx.out h2 s HEX.out, trivial⟩
     case measure => simp [intOf]
    ·have g2 : (s : Int) < (l2 : Int) := by omega
     obtain ⟨h3, hh3⟩ : ∃ h3, h3 = h2 + 1 := ⟨_, rfl⟩
     have hex3 : h3 * 18446744073709551616 + s = D * b := by rw [hpe2]; exact pl_car h2 l2 P b s h3 hex hs hc hb (by omega) hh3
     have g3 : IntKind.u64.wrap ((h2 : Int) + 1) = (h3 : Int) := by rw [w64u (by omega) (by omega)]; omega
     have HEX := hide hex3
     have HL2 := hide (show s < 18446744073709551616 by omega)
     clear hj hbt hstep hE hDa ha hb hl hPb hPe hP hbt2 hle ht hl2 h63 hh2 hT hex h1 hA hD HE HL hs hpe2 hc hh3 hex3
     go_wp2_with fail
     go_roundw
     case rel => exact ⟨h3, s, rfl, rfl, HL2, HIx.out h3 s HEX.out, trivial⟩
     case measure => simp [intOf]
  ·have HQ := hide (show a * b / 18446744073709551616 = h by have := HE.out; have := HL.out; omega)
   have HR := hide (show a * b % 18446744073709551616 = l by have := HE.out; have := HL.out; omega)
   clear HE HL
   go_wp2_with fail
   exact bodyPost_ret (v := .tuple #[.int .u64 (h : Int), .int .u64 (l : Int)]) (by simp [results, Tryz.results76, go_sem]) rfl ⟨by rw [HQ.out, HR.out], rfl⟩
theorem pl_high (hi lo j : Nat) (hl : lo < 18446744073709551616) (hj : 64 ≤ j) : (hi * 18446744073709551616 + lo) / 2 ^ j = hi / 2 ^ (j - 64) := by
 have e : 2 ^ j = 18446744073709551616 * 2 ^ (j - 64) := by rw [show (18446744073709551616 : Nat) = 2 ^ 64 by decide, ← Nat.pow_add]; congr 1; omega
 rw [e, ← Nat.div_div_eq_div_mul, Nat.mul_comm hi, Nat.mul_add_div (by decide), Nat.div_eq_of_lt hl, Nat.add_zero]
theorem pl_low (hi lo j : Nat) (hj : j < 64) : (hi * 18446744073709551616 + lo) / 2 ^ j % 2 = lo / 2 ^ j % 2 := by
 have e : hi * 18446744073709551616 = 2 ^ j * (2 * (hi * 2 ^ (63 - j))) := by
  rw [show (18446744073709551616 : Nat) = 2 ^ j * (2 * 2 ^ (63 - j)) by rw [← Nat.pow_succ', ← Nat.pow_add, show j + (63 - j + 1) = 64 by omega]]
  rw [Nat.mul_left_comm, Nat.mul_left_comm hi 2]
 rw [e, Nat.mul_add_div (Nat.two_pow_pos j)]
 omega
theorem pl_q (q d r N : Nat) (hd : 0 < d) (h : q * d + r = N) : q ≤ N := by
 have := Nat.le_mul_of_pos_right q hd
 omega
theorem pl_half (N j : Nat) (hN : N < 340282366920938463463374607431768211456) : N / 2 ^ (j + 1) < 170141183460469231731687303715884105728 := by
 rw [Nat.pow_succ', ← Nat.div_div_eq_div_mul]
 exact Nat.lt_of_le_of_lt (Nat.div_le_self _ _) (by omega)
theorem pl_top (h l q : Nat) (he : h * 18446744073709551616 + l = q) (hq : q < 170141183460469231731687303715884105728) : h < 9223372036854775808 := by
 rw [← he] at hq
 omega
set_option maxHeartbeats 4000000 in
set_option maxRecDepth 100000 in
theorem rBy_any (hi lo d : Nat) (hh : hi < 18446744073709551616) (hl : lo < 18446744073709551616) (hd : 0 < d) (hd2 : d ≤ 9223372036854775808) (w : World) :
  Calls Tryz.prog 78 #[.int .u64 (hi : Int), .int .u64 (lo : Int), .int .u64 (d : Int)] w fun e w' => (∃ qh ql : Nat, e = .returned (.tuple #[.int .u64 (qh : Int), .int .u64 (ql : Int), .int .u64 (((hi * 18446744073709551616 + lo) % d : Nat) : Int)]) ∧ ql < 18446744073709551616 ∧ qh * 18446744073709551616 + ql = (hi * 18446744073709551616 + lo) / d) ∧ w = w' := by
 obtain ⟨NN, hNN⟩ : ∃ NN, NN = hi * 18446744073709551616 + lo := ⟨_, rfl⟩
 have hNb : NN < 340282366920938463463374607431768211456 := by rw [hNN]; omega
 have HNB := hide hNb
 have HNN := hide hNN
 have HH := hide hh
 have HLO := hide hl
 have HD := hide hd
 have HD2 := hide hd2
 have n128 : NN / 2 ^ (127 + 1) = 0 := Nat.div_eq_of_lt hNb
 have HS := hide (show (0 * 18446744073709551616 + 0) * d + 0 = NN / 2 ^ (127 + 1) by rw [n128]; simp)
 rw [← hNN]
 clear hh hl n128 hNN hNb hd hd2
 go_enter Tryz.func78, Tryz.ntmps78
 go_wp2_with fail
 go_loopw [9, 10, 11, 12] (fun H L R I wr => ∃ h l r : Nat, H = .int .u64 (h : Int) ∧ L = .int .u64 (l : Int) ∧ R = .int .u64 (r : Int) ∧ Hid (l < 18446744073709551616) ∧ Hid (r < d) ∧ ((∃ j : Nat, j < 128 ∧ I = .int .i64 (j : Int) ∧ Hid ((h * 18446744073709551616 + l) * d + r = NN / 2 ^ (j + 1))) ∨ (I = .int .i64 (-1) ∧ Hid ((h * 18446744073709551616 + l) * d + r = NN))) ∧ w = wr) (fun _ _ _ I _ => (intOf I + 1).toNat)
 case atStart => exact ⟨0, 0, 0, rfl, rfl, rfl, hide (by decide), HD, .inl ⟨127, by decide, rfl, HS⟩, rfl⟩
 case round =>
  obtain ⟨h, l, r, rfl, rfl, rfl, HL, HRD, hI, rfl⟩ := hrel
  rcases hI with ⟨j, hj, rfl, HE⟩ | ⟨rfl, HE⟩
  ·obtain ⟨bt, hbt⟩ : ∃ bt, bt = NN / 2 ^ j % 2 := ⟨_, rfl⟩
   have hstep := bit_step NN j
   rw [← hbt] at hstep
   obtain ⟨q, hq⟩ : ∃ q, q = h * 18446744073709551616 + l := ⟨_, rfl⟩
   have hE := HE.out
   rw [← hq] at hE
   rw [← hE] at hstep
   have hd := HD.out
   have hd2 := HD2.out
   have hl := HL.out
   have hr := HRD.out
   have hqb : h < 9223372036854775808 := pl_top h l q hq.symm (Nat.lt_of_le_of_lt (pl_q q d r _ hd hE) (pl_half NN j HNB.out))
   have hbt2 : bt < 2 := by rw [hbt]; omega
   obtain ⟨t, ht⟩ : ∃ t, t = l / 9223372036854775808 := ⟨_, rfl⟩
   obtain ⟨l2, hl2⟩ : ∃ l2, l2 = l * 2 % 18446744073709551616 := ⟨_, rfl⟩
   have ht2 : t < 2 := by omega
   have hl2b : l2 < 18446744073709551616 := by omega
   have f1 : IntKind.u64.wrap ((h : Int) * 2) = ((h * 2 : Nat) : Int) := by rw [w64u (by omega) (by omega)]; omega
   have f2 : (l : Int) / 9223372036854775808 = (t : Int) := by omega
   have f3 : bits .or .u64 ((h * 2 : Nat) : Int) (t : Int) = ((h * 2 + t : Nat) : Int) := or_bit h t (by omega) (by omega)
   obtain ⟨h2, hh2⟩ : ∃ h2, h2 = h * 2 + t := ⟨_, rfl⟩
   have hdbl : h2 * 18446744073709551616 + l2 = 2 * q := pl_dbl h l h2 t l2 q hq.symm ht hl2 hh2
   rw [← hh2] at f3
   generalize h * 2 = hd2x at f1 f3
   have f4 : IntKind.u64.wrap ((l : Int) * 2) = (l2 : Int) := by rw [IntKind.wrap_u64]; omega
   have r1 : (r : Int) / 9223372036854775808 = 0 := by omega
   obtain ⟨rd, hrd⟩ : ∃ rd, rd = r * 2 := ⟨_, rfl⟩
   have r2 : IntKind.u64.wrap ((r : Int) * 2) = (rd : Int) := by rw [w64u (by omega) (by omega)]; omega
   obtain ⟨rb, hrb⟩ : ∃ rb, rb = r * 2 + bt := ⟨_, rfl⟩
   have r3 : bits .or .u64 (rd : Int) (bt : Int) = (rb : Int) := by rw [hrd, hrb]; exact or_bit r bt hbt2 (by omega)
   have f8 : IntKind.i64.wrap ((j : Int) - 1) = (j : Int) - 1 := by rw [IntKind.wrap_i64]; omega
   have HJ := hide hj
   have c2 : (0 : Int) ≤ (j : Int) := by omega
   have HIx : Hid (∀ h l r : Nat, (h * 18446744073709551616 + l) * d + r = NN / 2 ^ j → (∃ j' : Nat, j' < 128 ∧ Value.int .i64 ((j : Int) - 1) = .int .i64 (j' : Int) ∧ Hid ((h * 18446744073709551616 + l) * d + r = NN / 2 ^ (j' + 1))) ∨ (Value.int .i64 ((j : Int) - 1) = .int .i64 (-1) ∧ Hid ((h * 18446744073709551616 + l) * d + r = NN))) := hide (by
    intro h l r hh
    rcases Nat.eq_zero_or_pos j with h0 | h0
    ·refine .inr ⟨by rw [h0]; rfl, hide ?_⟩
     rw [hh, h0]
     simp
    ·refine .inl ⟨j - 1, by omega, by rw [show (j : Int) - 1 = ((j - 1 : Nat) : Int) by omega], hide ?_⟩
     rw [hh, show j - 1 + 1 = j by omega])
   have hL1 : bits .or .u64 (l2 : Int) 1 = ((l2 + 1 : Nat) : Int) := by
    have := or_bit (l2 / 2) 1 (by decide) (by omega)
    rw [show l2 / 2 * 2 = l2 by omega] at this
    exact this
   have hsum : (2 * q) * d + rb = NN / 2 ^ j := by
    rw [hstep, hrb, Nat.mul_assoc]
    generalize q * d = X
    omega
   have hsum2 : ¬ rb < d → (2 * q + 1) * d + (rb - d) = NN / 2 ^ j := by
    intro hc
    rw [← hsum, Nat.add_mul, Nat.one_mul]
    generalize 2 * q * d = X
    omega
   have hrb2 : rb < 2 * d := by omega
   obtain ⟨l3, hl3⟩ : ∃ l3, l3 = l2 + 1 := ⟨_, rfl⟩
   rw [← hl3] at hL1
   have hl3b : l3 < 18446744073709551616 := by omega
   have hdbl3 : h2 * 18446744073709551616 + l3 = 2 * q + 1 := by rw [hl3, ← Nat.add_assoc, hdbl]
   have hbits : (64 ≤ j ∧ IntKind.i64.wrap ((j : Int) - 64) = ((j - 64 : Nat) : Int) ∧ IntKind.u64.wrap ((j - 64 : Nat) : Int) = ((j - 64 : Nat) : Int) ∧ bits .and .u64 ((hi / 2 ^ (j - 64) : Nat) : Int) 1 = (bt : Int)) ∨ (j < 64 ∧ bits .and .u64 ((lo / 2 ^ j : Nat) : Int) 1 = (bt : Int)) := by
    have hh := HH.out
    have hlo := HLO.out
    by_cases h64 : 64 ≤ j
    ·refine .inl ⟨h64, by rw [IntKind.wrap_i64]; omega, w64u (by omega) (by omega), ?_⟩
     rw [and_bit _ (Nat.lt_of_le_of_lt (Nat.div_le_self _ _) hh), hbt, HNN.out, pl_high hi lo j hlo h64]
    ·refine .inr ⟨by omega, ?_⟩
     rw [and_bit _ (Nat.lt_of_le_of_lt (Nat.div_le_self _ _) hlo), hbt, HNN.out, pl_low hi lo j (by omega)]
   clear hbt hstep hE hd hr hqb hbt2 ht hl2 ht2 hh2 hrd hrb hl3 HE HL HRD hq
   rcases hbits with ⟨h64, b1, b2, b3⟩ | ⟨h64, b3⟩
   ·have s0 : (64 : Int) ≤ (j : Int) := by omega
    obtain ⟨k, hk⟩ : ∃ k, k = j - 64 := ⟨_, rfl⟩
    rw [← hk] at b1 b2 b3
    have k2 : (0 : Int) ≤ (k : Int) := by omega
    have k3 : (k : Int) ≤ 64 := by omega
    have k3' : ¬ (64 : Int) < (k : Int) := by omega
    have k4 : ((k : Int)).toNat = k := Int.toNat_natCast k
    obtain ⟨T, hT⟩ : ∃ T, T = 2 ^ k := ⟨_, rfl⟩
    have hTi : (2 : Int) ^ k = (T : Int) := by rw [hT]; norm_cast
    have f6 : (hi : Int) / (T : Int) = ((hi / 2 ^ k : Nat) : Int) := by rw [← hT]; norm_cast
    generalize hi / 2 ^ k = hx at *
    by_cases hc : rb < d
    ·have c7 : ¬ (d : Int) ≤ (rb : Int) := by omega
     have HRB := hide hc
     have HL2 := hide hl2b
     have HEX := hide (show (h2 * 18446744073709551616 + l2) * d + rb = NN / 2 ^ j by rw [hdbl]; exact hsum)
     clear hT h64 hk hl hj hd2 hdbl hdbl3 hsum hsum2 hrb2 hl3b hl2b hc
     go_wp2_with fail
     go_roundw
     case rel => exact ⟨h2, l2, rb, rfl, rfl, rfl, HL2, HRB, HIx.out h2 l2 rb HEX.out, trivial⟩
     case measure => simp [intOf]
    ·have c7 : (d : Int) ≤ (rb : Int) := by omega
     obtain ⟨re, hre⟩ : ∃ re, re = rb - d := ⟨_, rfl⟩
     have r5 : IntKind.u64.wrap ((rb : Int) - (d : Int)) = (re : Int) := by rw [w64u (by omega) (by omega)]; omega
     have HRB := hide (show re < d by omega)
     have HL2 := hide hl3b
     have HEX := hide (show (h2 * 18446744073709551616 + l3) * d + re = NN / 2 ^ j by rw [hdbl3, hre]; exact hsum2 hc)
     clear hT h64 hk hl hj hd2 hdbl hdbl3 hsum hsum2 hrb2 hl3b hl2b hc hre
     go_wp2_with fail
     go_roundw
     case rel => exact ⟨h2, l3, re, rfl, rfl, rfl, HL2, HRB, HIx.out h2 l3 re HEX.out, trivial⟩
     case measure => simp [intOf]
   ·have s0 : ¬ (64 : Int) ≤ (j : Int) := by omega
    have b2 : IntKind.u64.wrap (j : Int) = (j : Int) := w64u (by omega) (by omega)
    have k3 : (j : Int) ≤ 64 := by omega
    have k3' : ¬ (64 : Int) < (j : Int) := by omega
    have k4 : ((j : Int)).toNat = j := Int.toNat_natCast j
    obtain ⟨T, hT⟩ : ∃ T, T = 2 ^ j := ⟨_, rfl⟩
    have hTi : (2 : Int) ^ j = (T : Int) := by rw [hT]; norm_cast
    have f6 : (lo : Int) / (T : Int) = ((lo / 2 ^ j : Nat) : Int) := by rw [← hT]; norm_cast
    generalize lo / 2 ^ j = hx at *
    by_cases hc : rb < d
    ·have c7 : ¬ (d : Int) ≤ (rb : Int) := by omega
     have HRB := hide hc
     have HL2 := hide hl2b
     have HEX := hide (show (h2 * 18446744073709551616 + l2) * d + rb = NN / 2 ^ j by rw [hdbl]; exact hsum)
     clear hT h64 hl hj hd2 hdbl hdbl3 hsum hsum2 hrb2 hl3b hl2b hc
     go_wp2_with fail
     go_roundw
     case rel => exact ⟨h2, l2, rb, rfl, rfl, rfl, HL2, HRB, HIx.out h2 l2 rb HEX.out, trivial⟩
     case measure => simp [intOf]
    ·have c7 : (d : Int) ≤ (rb : Int) := by omega
     obtain ⟨re, hre⟩ : ∃ re, re = rb - d := ⟨_, rfl⟩
     have r5 : IntKind.u64.wrap ((rb : Int) - (d : Int)) = (re : Int) := by rw [w64u (by omega) (by omega)]; omega
     have HRB := hide (show re < d by omega)
     have HL2 := hide hl3b
     have HEX := hide (show (h2 * 18446744073709551616 + l3) * d + re = NN / 2 ^ j by rw [hdbl3, hre]; exact hsum2 hc)
     clear hT h64 hl hj hd2 hdbl hdbl3 hsum hsum2 hrb2 hl3b hl2b hc hre
     go_wp2_with fail
     go_roundw
     case rel => exact ⟨h2, l3, re, rfl, rfl, rfl, HL2, HRB, HIx.out h2 l3 re HEX.out, trivial⟩
     case measure => simp [intOf]
  ·obtain ⟨q, hq⟩ : ∃ q, q = h * 18446744073709551616 + l := ⟨_, rfl⟩
   have hE := HE.out
   rw [← hq] at hE
   have hdm : NN % d = r := by rw [← hE, Nat.mul_comm q d, Nat.mul_add_mod, Nat.mod_eq_of_lt HRD.out]
   have HFQ := hide (show h * 18446744073709551616 + l = NN / d by rw [← hE, Nat.mul_comm q d, Nat.mul_add_div HD.out, Nat.div_eq_of_lt HRD.out, Nat.add_zero, hq])
   have HDM := hide hdm
   clear HE hq hE hdm HRD
   go_wp2_with fail
   exact bodyPost_ret (v := .tuple #[.int .u64 (h : Int), .int .u64 (l : Int), .int .u64 (r : Int)]) (by simp [results, Tryz.results78, go_sem]) rfl ⟨⟨h, l, by rw [HDM.out], HL.out, HFQ.out⟩, rfl⟩
end Go.Proofs.YtbmgodmfpoappaaGreat
namespace Go.Proofs.YtbmgodmfpoappaaGreat
open Go.RowKit
attribute [local go_sem ↓] Go.wp_at_zero Go.wp_at_succ
def frT : Option Int → Value
 | some n => .tuple #[.int .i64 n, .bool true]
 | none => .tuple #[.int .i64 0, .bool false]
theorem rAbs_num (n : Int) (h : Num64 n) (w : World) : Calls Tryz.prog 77 #[.int .i64 n] w fun e w' => e = .returned (.int .u64 (n.natAbs : Nat)) ∧ w = w' := by
 obtain ⟨h1, h2⟩ := h
 by_cases h0 : n < 0
 ·have HE := hide (show ((n.natAbs : Nat) : Int) = -n by omega)
  have e1 : IntKind.i64.wrap (n + 1) = n + 1 := by rw [IntKind.wrap_i64]; omega
  have e2 : IntKind.i64.wrap (-(n + 1)) = -(n + 1) := by rw [IntKind.wrap_i64]; omega
  have e3 : IntKind.u64.wrap (-(n + 1)) = -(n + 1) := by rw [IntKind.wrap_u64]; omega
  obtain ⟨m, hm⟩ : ∃ m, m = -(n + 1) := ⟨_, rfl⟩
  rw [← hm] at e2 e3
  have e4 : IntKind.u64.wrap (m + 1) = -n := by rw [IntKind.wrap_u64]; omega
  clear hm
  go_enter Tryz.func77, Tryz.ntmps77
  go_wp2_with fail
  exact bodyPost_ret (v := .int .u64 (-n)) (by simp [results, Tryz.results77, go_sem] <;> omega) rfl ⟨by rw [HE.out], rfl⟩
 ·have HE := hide (show ((n.natAbs : Nat) : Int) = n by omega)
  have e3 : IntKind.u64.wrap n = n := by rw [IntKind.wrap_u64]; omega
  go_enter Tryz.func77, Tryz.ntmps77
  go_wp2_with fail
  exact bodyPost_ret (v := .int .u64 n) (by simp [results, Tryz.results77, go_sem]) rfl ⟨by rw [HE.out], rfl⟩
theorem rFits_yes (neg : Bool) (q : Nat) (h : q ≤ 9223372036854775807) (w : World) : Calls Tryz.prog 79 #[.bool neg, .int .u64 0, .int .u64 (q : Int)] w fun e w' => e = .returned (frT (some (if neg then -(q : Int) else (q : Int)))) ∧ w = w' := by
 have e1 : ¬ 9223372036854775807 < (q : Int) := by omega
 have e2 : IntKind.i64.wrap (q : Int) = (q : Int) := by rw [IntKind.wrap_i64]; omega
 have e3 : IntKind.i64.wrap (-(q : Int)) = -(q : Int) := by rw [IntKind.wrap_i64]; omega
 cases neg
 ·clear h
  go_enter Tryz.func79, Tryz.ntmps79
  go_wp2_with fail
  exact bodyPost_ret (v := .tuple #[.int .i64 (q : Int), .bool true]) (by simp [results, Tryz.results79, go_sem]) rfl ⟨rfl, rfl⟩
 ·clear h
  go_enter Tryz.func79, Tryz.ntmps79
  go_wp2_with fail
  exact bodyPost_ret (v := .tuple #[.int .i64 (-(q : Int)), .bool true]) (by simp [results, Tryz.results79, go_sem]) rfl ⟨rfl, rfl⟩
theorem rFits_no (neg : Bool) (hi lo : Nat) (h : 9223372036854775807 < hi * 18446744073709551616 + lo) (w : World) : Calls Tryz.prog 79 #[.bool neg, .int .u64 (hi : Int), .int .u64 (lo : Int)] w fun e w' => e = .returned (frT none) ∧ w = w' := by
 by_cases h0 : hi = 0
 ·have e1 : (9223372036854775807 : Int) < (lo : Int) := by omega
  have e0 : ((hi : Int) != 0) = false := by simp [h0]
  clear h h0
  go_enter Tryz.func79, Tryz.ntmps79
  go_wp2_with fail
  exact bodyPost_ret (v := .tuple #[.int .i64 0, .bool false]) (by simp [results, Tryz.results79, go_sem]) rfl ⟨rfl, rfl⟩
 ·have e0 : ((hi : Int) != 0) = true := by simp [h0]
  clear h h0
  go_enter Tryz.func79, Tryz.ntmps79
  go_wp2_with fail
  exact bodyPost_ret (v := .tuple #[.int .i64 0, .bool false]) (by simp [results, Tryz.results79, go_sem]) rfl ⟨rfl, rfl⟩
def sclI (a : Int) (k d : Nat) : Option Int :=
 if a.natAbs * k / d + (if a < 0 ∧ 0 < a.natAbs * k % d then 1 else 0) ≤ 9223372036854775807 then some (if a < 0 then -((a.natAbs * k / d + (if a < 0 ∧ 0 < a.natAbs * k % d then 1 else 0) : Nat) : Int) else ((a.natAbs * k / d : Nat) : Int)) else none
set_option maxHeartbeats 4000000 in
set_option maxRecDepth 100000 in
theorem rScaled_any (a : Int) (k d : Nat) (ha : Num64 a) (hk : k < 1000000) (hd : 0 < d) (hd2 : d < 1000000) (hr : 0 < a.natAbs * k % d → a.natAbs * k / d ≤ 9223372036854775807) (w : World) :
  Calls Tryz.prog 41 #[.int .i64 a, .int .i64 1, .int .u64 (k : Int), .int .i64 (d : Int)] w fun e w' => e = .returned (frT (sclI a k d)) ∧ w = w' := by
 have hx : a.natAbs < 9223372036854775808 := by have := ha.1; have := ha.2; omega
 have A1 := hide (fun w2 => rAbs_num a ha w2)
 have A2 := hide (fun w2 => (show Calls Tryz.prog 77 #[.int .i64 1] w2 fun e w' => e = .returned (.int .u64 1) ∧ w2 = w' from rAbs_num 1 ⟨by decide, by decide⟩ w2))
 have A3 := hide (fun w2 => (show Calls Tryz.prog 77 #[.int .i64 (d : Int)] w2 fun e w' => e = .returned (.int .u64 (d : Int)) ∧ w2 = w' from rAbs_num (d : Int) ⟨by omega, by omega⟩ w2))
 obtain ⟨x, hxe⟩ : ∃ x, x = a.natAbs := ⟨_, rfl⟩
 rw [← hxe] at A1 hx hr
 have M1 := hide (fun w2 => (show Calls Tryz.prog 76 #[.int .u64 (x : Int), .int .u64 1] w2 fun e w' => e = .returned (.tuple #[.int .u64 0, .int .u64 (x : Int)]) ∧ w2 = w' by
  have := rMul_any x 1 (by omega) (by decide) w2
  rwa [Nat.mul_one, Nat.div_eq_of_lt (by omega), Nat.mod_eq_of_lt (by omega)] at this))
 have M3 := hide (fun w2 => (show Calls Tryz.prog 76 #[.int .u64 0, .int .u64 (k : Int)] w2 fun e w' => e = .returned (.tuple #[.int .u64 0, .int .u64 0]) ∧ w2 = w' by
  have := rMul_any 0 k (by decide) (by omega) w2
  rwa [Nat.zero_mul] at this))
 obtain ⟨NN, hN⟩ : ∃ NN, NN = x * k := ⟨_, rfl⟩
 have M2 := hide (fun w2 => rMul_any x k (by omega) (by omega) w2)
 rw [← hN] at M2 hr
 obtain ⟨hi, hhi⟩ : ∃ hi, hi = NN / 18446744073709551616 := ⟨_, rfl⟩
 obtain ⟨lo, hlo⟩ : ∃ lo, lo = NN % 18446744073709551616 := ⟨_, rfl⟩
 rw [← hhi, ← hlo] at M2
 have hNe : hi * 18446744073709551616 + lo = NN := by rw [hhi, hlo]; omega
 have hNb : NN < 9223372036854775808 * 1000000 := by
  have := Nat.mul_le_mul (show x ≤ 9223372036854775807 by omega) (show k ≤ 999999 by omega)
  omega
 have hhib : hi < 18446744073709551616 := by omega
 have hlob : lo < 18446744073709551616 := by omega
 have BY := hide (fun w2 => rBy_any hi lo d hhib hlob hd (by omega) w2)
 rw [hNe] at BY
 obtain ⟨q, hq⟩ : ∃ q, q = NN / d := ⟨_, rfl⟩
 obtain ⟨r, hrr⟩ : ∃ r, r = NN % d := ⟨_, rfl⟩
 rw [← hq, ← hrr] at BY
 rw [← hq, ← hrr] at hr
 have hres : sclI a k d = if q + (if a < 0 ∧ 0 < r then 1 else 0) ≤ 9223372036854775807 then some (if a < 0 then -((q + (if a < 0 ∧ 0 < r then 1 else 0) : Nat) : Int) else ((q : Nat) : Int)) else none := by
  unfold sclI
  rw [← hxe, ← hN, ← hq, ← hrr]
 have g1 : IntKind.u64.wrap (hi : Int) = (hi : Int) := w64u (by omega) (by omega)
 have g2 : ¬ (hi : Int) < 0 := by omega
 have g3 : ¬ (d : Int) < 0 := by omega
 have t3 : decide ((d : Int) < 0) = false := decide_eq_false g3
 have hNN0 := hN
 clear hxe hN hhi hlo hNe hNb hhib hlob hx ha hk hd hd2 hq hrr hNN0 g3
 by_cases h0 : a < 0
 ·have t1 : decide (a < 0) = true := decide_eq_true h0
  by_cases hr0 : 0 < r
  ·have HQB := hide (hr hr0)
   have r1 : ((r : Int) != 0) = true := by rw [bne_iff_ne]; omega
   obtain ⟨q1, hq1⟩ : ∃ q1, q1 = q + 1 := ⟨_, rfl⟩
   have q1w : IntKind.u64.wrap ((q : Int) + 1) = (q1 : Int) := by have := HQB.out; rw [w64u (by omega) (by omega)]; omega
   have q1z : ((q1 : Int) == 0) = false := by rw [beq_eq_false_iff_ne]; omega
   have hres2 : sclI a k d = if q1 ≤ 9223372036854775807 then some (-(q1 : Int)) else none := by
    rw [hres, if_pos (show a < 0 ∧ 0 < r from ⟨h0, hr0⟩), if_pos h0, hq1]
   clear hres hr hr0 hq1 h0
   by_cases hf : q1 ≤ 9223372036854775807
   ·have HRES := hide (show sclI a k d = some (-(q1 : Int)) by rw [hres2, if_pos hf])
    have HFT := hide (fun w2 => (show Calls Tryz.prog 79 #[.bool true, .int .u64 0, .int .u64 (q1 : Int)] w2 fun e w' => e = .returned (.tuple #[.int .i64 (-(q1 : Int)), .bool true]) ∧ w2 = w' from rFits_yes true q1 hf w2))
    clear hres2 hf
    go_enter Tryz.func41, Tryz.ntmps41
    go_wp2_with (first
     | (go_at_call 77; (with_reducible refine (A1.out _).mono ?_); rintro e w1 ⟨rfl, rfl⟩)
     | (go_at_call 77; (with_reducible refine (A2.out _).mono ?_); rintro e w1 ⟨rfl, rfl⟩)
     | (go_at_call 77; (with_reducible refine (A3.out _).mono ?_); rintro e w1 ⟨rfl, rfl⟩)
     | (go_at_call 76; (with_reducible refine (M1.out _).mono ?_); rintro e w1 ⟨rfl, rfl⟩)
     | (go_at_call 76; (with_reducible refine (M2.out _).mono ?_); rintro e w1 ⟨rfl, rfl⟩)
     | (go_at_call 76; (with_reducible refine (M3.out _).mono ?_); rintro e w1 ⟨rfl, rfl⟩)
     | (go_at_call 78; refine (BY.out _).mono ?_; rintro e w1 ⟨⟨qh, ql, rfl, hqlb, hqe⟩, rfl⟩; obtain rfl : qh = 0 := (by have := HQB.out; omega); obtain rfl : q = ql := (by omega); clear hqlb hqe)
     | (go_at_call 79; refine (HFT.out _).mono ?_; rintro e w1 ⟨rfl, rfl⟩))
    exact bodyPost_ret (v := .tuple #[.int .i64 (-(q1 : Int)), .bool true]) (by simp [results, Tryz.results41, go_sem]) rfl ⟨by rw [HRES.out]; rfl, rfl⟩
   ·have HRES := hide (show sclI a k d = none by rw [hres2, if_neg hf])
    have HFT := hide (fun w2 => (show Calls Tryz.prog 79 #[.bool true, .int .u64 0, .int .u64 (q1 : Int)] w2 fun e w' => e = .returned (.tuple #[.int .i64 0, .bool false]) ∧ w2 = w' from rFits_no true 0 q1 (by omega) w2))
    clear hres2 hf
    go_enter Tryz.func41, Tryz.ntmps41
    go_wp2_with (first
     | (go_at_call 77; (with_reducible refine (A1.out _).mono ?_); rintro e w1 ⟨rfl, rfl⟩)
     | (go_at_call 77; (with_reducible refine (A2.out _).mono ?_); rintro e w1 ⟨rfl, rfl⟩)
     | (go_at_call 77; (with_reducible refine (A3.out _).mono ?_); rintro e w1 ⟨rfl, rfl⟩)
     | (go_at_call 76; (with_reducible refine (M1.out _).mono ?_); rintro e w1 ⟨rfl, rfl⟩)
     | (go_at_call 76; (with_reducible refine (M2.out _).mono ?_); rintro e w1 ⟨rfl, rfl⟩)
     | (go_at_call 76; (with_reducible refine (M3.out _).mono ?_); rintro e w1 ⟨rfl, rfl⟩)
     | (go_at_call 78; refine (BY.out _).mono ?_; rintro e w1 ⟨⟨qh, ql, rfl, hqlb, hqe⟩, rfl⟩; obtain rfl : qh = 0 := (by have := HQB.out; omega); obtain rfl : q = ql := (by omega); clear hqlb hqe)
     | (go_at_call 79; refine (HFT.out _).mono ?_; rintro e w1 ⟨rfl, rfl⟩))
    exact bodyPost_ret (v := .tuple #[.int .i64 0, .bool false]) (by simp [results, Tryz.results41, go_sem]) rfl ⟨by rw [HRES.out]; rfl, rfl⟩
  ·have r1 : ((r : Int) != 0) = false := by rw [show r = 0 by omega]; rfl
   have hres2 : sclI a k d = if q ≤ 9223372036854775807 then some (-(q : Int)) else none := by
    rw [hres, if_neg (show ¬ (a < 0 ∧ 0 < r) from fun h => hr0 h.2), if_pos h0, Nat.add_zero]
   clear hres hr hr0 h0
   by_cases hf : q ≤ 9223372036854775807
   ·have HRES := hide (show sclI a k d = some (-(q : Int)) by rw [hres2, if_pos hf])
    have HQB := hide hf
    have HFT := hide (fun w2 => (show Calls Tryz.prog 79 #[.bool true, .int .u64 0, .int .u64 (q : Int)] w2 fun e w' => e = .returned (.tuple #[.int .i64 (-(q : Int)), .bool true]) ∧ w2 = w' from rFits_yes true q hf w2))
    clear hres2 hf
    go_enter Tryz.func41, Tryz.ntmps41
    go_wp2_with (first
     | (go_at_call 77; (with_reducible refine (A1.out _).mono ?_); rintro e w1 ⟨rfl, rfl⟩)
     | (go_at_call 77; (with_reducible refine (A2.out _).mono ?_); rintro e w1 ⟨rfl, rfl⟩)
     | (go_at_call 77; (with_reducible refine (A3.out _).mono ?_); rintro e w1 ⟨rfl, rfl⟩)
     | (go_at_call 76; (with_reducible refine (M1.out _).mono ?_); rintro e w1 ⟨rfl, rfl⟩)
     | (go_at_call 76; (with_reducible refine (M2.out _).mono ?_); rintro e w1 ⟨rfl, rfl⟩)
     | (go_at_call 76; (with_reducible refine (M3.out _).mono ?_); rintro e w1 ⟨rfl, rfl⟩)
     | (go_at_call 78; refine (BY.out _).mono ?_; rintro e w1 ⟨⟨qh, ql, rfl, hqlb, hqe⟩, rfl⟩; obtain rfl : qh = 0 := (by have := HQB.out; omega); obtain rfl : q = ql := (by omega); clear hqlb hqe)
     | (go_at_call 79; refine (HFT.out _).mono ?_; rintro e w1 ⟨rfl, rfl⟩))
    exact bodyPost_ret (v := .tuple #[.int .i64 (-(q : Int)), .bool true]) (by simp [results, Tryz.results41, go_sem]) rfl ⟨by rw [HRES.out]; rfl, rfl⟩
   ·have HRES := hide (show sclI a k d = none by rw [hres2, if_neg hf])
    have HQB := hide (show 9223372036854775807 < q by omega)
    clear hres2 hf
    go_enter Tryz.func41, Tryz.ntmps41
    go_wp2_with (first
     | (go_at_call 77; (with_reducible refine (A1.out _).mono ?_); rintro e w1 ⟨rfl, rfl⟩)
     | (go_at_call 77; (with_reducible refine (A2.out _).mono ?_); rintro e w1 ⟨rfl, rfl⟩)
     | (go_at_call 77; (with_reducible refine (A3.out _).mono ?_); rintro e w1 ⟨rfl, rfl⟩)
     | (go_at_call 76; (with_reducible refine (M1.out _).mono ?_); rintro e w1 ⟨rfl, rfl⟩)
     | (go_at_call 76; (with_reducible refine (M2.out _).mono ?_); rintro e w1 ⟨rfl, rfl⟩)
     | (go_at_call 76; (with_reducible refine (M3.out _).mono ?_); rintro e w1 ⟨rfl, rfl⟩)
     | (go_at_call 78; refine (BY.out _).mono ?_; rintro e w1 ⟨⟨qh, ql, rfl, hqlb, hqe⟩, rfl⟩; have HNO := hide (show 9223372036854775807 < qh * 18446744073709551616 + ql by rw [hqe]; exact HQB.out); clear hqlb hqe)
     | (go_at_call 79; refine ((fun w2 => (show Calls Tryz.prog 79 #[.bool true, .int .u64 (qh : Int), .int .u64 (ql : Int)] w2 fun e w' => e = .returned (.tuple #[.int .i64 0, .bool false]) ∧ w2 = w' from rFits_no true qh ql HNO.out w2)) _).mono ?_; rintro e w1 ⟨rfl, rfl⟩))
    exact bodyPost_ret (v := .tuple #[.int .i64 0, .bool false]) (by simp [results, Tryz.results41, go_sem]) rfl ⟨by rw [HRES.out]; rfl, rfl⟩
 ·have t1 : decide (a < 0) = false := decide_eq_false h0
  have hres2 : sclI a k d = if q ≤ 9223372036854775807 then some (q : Int) else none := by
   rw [hres, if_neg (show ¬ (a < 0 ∧ 0 < r) from fun h => h0 h.1), if_neg h0, Nat.add_zero]
  clear hres hr h0
  by_cases hf : q ≤ 9223372036854775807
  ·have HRES := hide (show sclI a k d = some (q : Int) by rw [hres2, if_pos hf])
   have HQB := hide hf
   have HFT := hide (fun w2 => (show Calls Tryz.prog 79 #[.bool false, .int .u64 0, .int .u64 (q : Int)] w2 fun e w' => e = .returned (.tuple #[.int .i64 (q : Int), .bool true]) ∧ w2 = w' from rFits_yes false q hf w2))
   clear hres2 hf
   go_enter Tryz.func41, Tryz.ntmps41
   go_wp2_with (first
    | (go_at_call 77; (with_reducible refine (A1.out _).mono ?_); rintro e w1 ⟨rfl, rfl⟩)
    | (go_at_call 77; (with_reducible refine (A2.out _).mono ?_); rintro e w1 ⟨rfl, rfl⟩)
    | (go_at_call 77; (with_reducible refine (A3.out _).mono ?_); rintro e w1 ⟨rfl, rfl⟩)
    | (go_at_call 76; (with_reducible refine (M1.out _).mono ?_); rintro e w1 ⟨rfl, rfl⟩)
    | (go_at_call 76; (with_reducible refine (M2.out _).mono ?_); rintro e w1 ⟨rfl, rfl⟩)
    | (go_at_call 76; (with_reducible refine (M3.out _).mono ?_); rintro e w1 ⟨rfl, rfl⟩)
    | (go_at_call 78; refine (BY.out _).mono ?_; rintro e w1 ⟨⟨qh, ql, rfl, hqlb, hqe⟩, rfl⟩; obtain rfl : qh = 0 := (by have := HQB.out; omega); obtain rfl : q = ql := (by omega); clear hqlb hqe)
    | (go_at_call 79; refine (HFT.out _).mono ?_; rintro e w1 ⟨rfl, rfl⟩))
   exact bodyPost_ret (v := .tuple #[.int .i64 (q : Int), .bool true]) (by simp [results, Tryz.results41, go_sem]) rfl ⟨by rw [HRES.out]; rfl, rfl⟩
  ·have HRES := hide (show sclI a k d = none by rw [hres2, if_neg hf])
   have HQB := hide (show 9223372036854775807 < q by omega)
   clear hres2 hf
   go_enter Tryz.func41, Tryz.ntmps41
   go_wp2_with (first
    | (go_at_call 77; (with_reducible refine (A1.out _).mono ?_); rintro e w1 ⟨rfl, rfl⟩)
    | (go_at_call 77; (with_reducible refine (A2.out _).mono ?_); rintro e w1 ⟨rfl, rfl⟩)
    | (go_at_call 77; (with_reducible refine (A3.out _).mono ?_); rintro e w1 ⟨rfl, rfl⟩)
    | (go_at_call 76; (with_reducible refine (M1.out _).mono ?_); rintro e w1 ⟨rfl, rfl⟩)
    | (go_at_call 76; (with_reducible refine (M2.out _).mono ?_); rintro e w1 ⟨rfl, rfl⟩)
    | (go_at_call 76; (with_reducible refine (M3.out _).mono ?_); rintro e w1 ⟨rfl, rfl⟩)
    | (go_at_call 78; refine (BY.out _).mono ?_; rintro e w1 ⟨⟨qh, ql, rfl, hqlb, hqe⟩, rfl⟩; have HNO := hide (show 9223372036854775807 < qh * 18446744073709551616 + ql by rw [hqe]; exact HQB.out); clear hqlb hqe)
    | (go_at_call 79; refine ((fun w2 => (show Calls Tryz.prog 79 #[.bool false, .int .u64 (qh : Int), .int .u64 (ql : Int)] w2 fun e w' => e = .returned (.tuple #[.int .i64 0, .bool false]) ∧ w2 = w' from rFits_no false qh ql HNO.out w2)) _).mono ?_; rintro e w1 ⟨rfl, rfl⟩))
   exact bodyPost_ret (v := .tuple #[.int .i64 0, .bool false]) (by simp [results, Tryz.results41, go_sem]) rfl ⟨by rw [HRES.out]; rfl, rfl⟩
end Go.Proofs.YtbmgodmfpoappaaGreat
namespace Go.Proofs.YtbmgodmfpoappaaGreat
open Go.RowKit
attribute [local go_sem ↓] Go.wp_at_zero Go.wp_at_succ
set_option maxHeartbeats 1000000 in
theorem mul_10k (x : Nat) (h : x < 9223372036854775808) (w : World) : Calls Tryz.prog 138 #[.int .u64 (x : Int), .int .u64 10000] w fun e w' => e = .returned (.tuple #[.int .u64 ((x * 10000 / 18446744073709551616 : Nat) : Int), .int .u64 ((x * 10000 % 18446744073709551616 : Nat) : Int)]) ∧ w = w' := by
 have a1 := and_low32 x (by omega)
 have a2 : bits .and .u64 10000 4294967295 = 10000 := by decide
 have a3 := and_low32 (x / 4294967296) (by omega)
 obtain ⟨lo, hlo⟩ : ∃ lo, lo = x % 4294967296 := ⟨_, rfl⟩
 obtain ⟨hi, hhi⟩ : ∃ hi, hi = x / 4294967296 := ⟨_, rfl⟩
 have b1 : ((x : Int) / 4294967296) = (hi : Int) := by omega
 have b2 : lo < 4294967296 := by omega
 have b3 : hi < 2147483648 := by omega
 have a3' : bits .and .u64 (hi : Int) 4294967295 = (hi : Int) := by rw [hhi, a3]; omega
 rw [← hlo] at a1
 obtain ⟨W0, hW0⟩ : ∃ W0, W0 = lo * 10000 := ⟨_, rfl⟩
 obtain ⟨Wh, hWh⟩ : ∃ Wh, Wh = W0 / 4294967296 := ⟨_, rfl⟩
 obtain ⟨Th, hTh⟩ : ∃ Th, Th = hi * 10000 := ⟨_, rfl⟩
 obtain ⟨T, hT⟩ : ∃ T, T = Th + Wh := ⟨_, rfl⟩
 have d1 : IntKind.u64.wrap ((lo : Int) * 10000) = (W0 : Int) := by rw [w64u (by omega) (by omega)]; omega
 have d2 : (W0 : Int) / 4294967296 = (Wh : Int) := by omega
 have d3 : IntKind.u64.wrap ((hi : Int) * 10000) = (Th : Int) := by rw [w64u (by omega) (by omega)]; omega
 have d4 : IntKind.u64.wrap ((Th : Int) + (Wh : Int)) = (T : Int) := by rw [w64u (by omega) (by omega)]; omega
 have d5 := and_low32 T (by omega)
 obtain ⟨T1, hT1⟩ : ∃ T1, T1 = T % 4294967296 := ⟨_, rfl⟩
 obtain ⟨T2, hT2⟩ : ∃ T2, T2 = T / 4294967296 := ⟨_, rfl⟩
 rw [← hT1] at d5
 have d6 : (T : Int) / 4294967296 = (T2 : Int) := by omega
 have d7 : IntKind.u64.wrap (T1 : Int) = (T1 : Int) := w64u (by omega) (by omega)
 have d8 : (T1 : Int) / 4294967296 = 0 := by omega
 have d9 : IntKind.u64.wrap (T2 : Int) = (T2 : Int) := w64u (by omega) (by omega)
 obtain ⟨L, hL⟩ : ∃ L, L = x * 10000 % 18446744073709551616 := ⟨_, rfl⟩
 have e1 : IntKind.u64.wrap ((x : Int) * 10000) = (L : Int) := by rw [IntKind.wrap_u64]; omega
 have HT2 := hide (show x * 10000 / 18446744073709551616 = T2 by
  rw [show x * 10000 = Th * 4294967296 + W0 by omega, show (18446744073709551616 : Nat) = 4294967296 * 4294967296 by decide, ← Nat.div_div_eq_div_mul, Nat.mul_comm Th, Nat.mul_add_div (by decide), ← hWh, ← hT, ← hT2])
 rw [← hL]
 have c4 : IntKind.u64.wrap 0 = 0 := by decide
 clear hlo hhi a3 b2 b3 h hW0 hWh hTh hT hT1 hT2 hL
 go_enter Tryz.func138, Tryz.ntmps138
 go_wp2_with fail
 exact bodyPost_ret (v := .tuple #[.int .u64 (T2 : Int), .int .u64 (L : Int)]) (by simp [results, Tryz.results138, go_sem]) rfl ⟨by rw [HT2.out], rfl⟩
theorem scl_dec (a : Int) : sclI a 10000 1 = if a.natAbs * 10000 ≤ 9223372036854775807 then some (if a < 0 then -((a.natAbs * 10000 : Nat) : Int) else ((a.natAbs * 10000 : Nat) : Int)) else none := by
 unfold sclI
 rw [Nat.div_one, Nat.mod_one, if_neg (show ¬ (a < 0 ∧ 0 < 0) from fun h => absurd h.2 (by decide)), Nat.add_zero]
theorem scl_int (a : Int) (ha : Num64 a) : sclI a 1 10000 = some (flq a 10000) := by
 have h1 := ha.1
 have h2 := ha.2
 have hb : a.natAbs / 10000 ≤ 922337203685477 := by omega
 unfold sclI flq
 rw [Nat.mul_one, show Int.natAbs 10000 = 10000 from rfl]
 have hd : decide ((10000 : Int) < 0) = false := by decide
 rw [hd]
 by_cases h0 : a < 0
 ·rw [decide_eq_true h0]
  by_cases hr : 0 < a.natAbs % 10000
  ·rw [if_pos (show a < 0 ∧ 0 < a.natAbs % 10000 from ⟨h0, hr⟩), if_pos (by omega), if_pos h0, if_pos (by rfl), if_pos hr]
  ·rw [if_neg (show ¬ (a < 0 ∧ 0 < a.natAbs % 10000) from fun h => hr h.2), if_pos (by omega), if_pos h0, if_pos (by rfl), if_neg hr]
 ·rw [decide_eq_false h0, if_neg (show ¬ (a < 0 ∧ 0 < a.natAbs % 10000) from fun h => h0 h.1), if_pos (by omega), if_neg h0, if_neg (by decide)]
set_option maxHeartbeats 2000000 in
set_option maxRecDepth 100000 in
theorem frac_dec (a : Int) (ha : Num64 a) (w : World) : Calls Tryz.prog 112 #[.int .i64 a, .int .i64 10000, .int .i64 1] w fun e w' => e = .returned (frT (sclI a 10000 1)) ∧ w.grownBy w' none := by
 have S1 := hide (fun w2 => size_num a ha w2)
 have S2 := hide (fun w2 => (show Calls Tryz.prog 139 #[.int .i64 10000] w2 fun e w' => e = .returned (.int .u64 10000) ∧ w2 = w' from size_num 10000 ⟨by decide, by decide⟩ w2))
 have S3 := hide (fun w2 => (show Calls Tryz.prog 139 #[.int .i64 1] w2 fun e w' => e = .returned (.int .u64 1) ∧ w2 = w' from size_num 1 ⟨by decide, by decide⟩ w2))
 have hx : a.natAbs < 9223372036854775808 := by have := ha.1; have := ha.2; omega
 have hs := scl_dec a
 have M := hide (fun w2 => mul_10k a.natAbs hx w2)
 generalize a.natAbs = x at *
 obtain ⟨n, hn⟩ : ∃ n, n = x * 10000 := ⟨_, rfl⟩
 rw [← hn] at M hs
 have u1 : IntKind.u64.wrap 9223372036854775807 = 9223372036854775807 := by decide
 by_cases hb : n < 18446744073709551616
 ·rw [Nat.div_eq_of_lt hb, Nat.mod_eq_of_lt hb] at M
  have D := hide (fun w2 => (show Calls Tryz.prog 140 #[.int .u64 0, .int .u64 (n : Int), .int .u64 1] w2 fun e w' => e = .returned (.tuple #[.int .u64 (n : Int), .int .u64 0]) ∧ w2.grownBy w' none by
   have := div_low n 1 (by omega) (by decide) (by decide) w2
   rwa [Nat.div_one, Nat.mod_one] at this))
  by_cases hf : n ≤ 9223372036854775807
  ·rw [if_pos hf] at hs
   have u2 : decide ((9223372036854775807 : Int) < (n : Int)) = false := decide_eq_false (by omega)
   have u2' : ¬ (9223372036854775807 : Int) < (n : Int) := by omega
   have u3 : IntKind.u64.wrap (n : Int) = (n : Int) := by rw [IntKind.wrap_u64]; omega
   have u4 : IntKind.i64.wrap (n : Int) = (n : Int) := by rw [IntKind.wrap_i64]; omega
   have u5 : IntKind.i64.wrap (-(n : Int)) = -(n : Int) := by rw [IntKind.wrap_i64]; omega
   by_cases h0 : a < 0
   ·have t1 : decide (a < 0) = true := decide_eq_true h0
    rw [if_pos h0] at hs
    have HF := hide hs
    clear hs h0 hf hb hn hx ha
    go_enter Tryz.func112, Tryz.ntmps112
    go_wp2_with (first
     | (go_at_call 139; (with_reducible refine (S1.out _).mono ?_); rintro e w1 ⟨rfl, rfl⟩)
     | (go_at_call 139; (with_reducible refine (S2.out _).mono ?_); rintro e w1 ⟨rfl, rfl⟩)
     | (go_at_call 139; (with_reducible refine (S3.out _).mono ?_); rintro e w1 ⟨rfl, rfl⟩)
     | (go_at_call 138; refine (M.out _).mono ?_; rintro e w1 ⟨rfl, rfl⟩)
     | (go_at_call 140; refine (D.out _).mono ?_; rintro e w1 ⟨rfl, hg1⟩; have HG := hide hg1; clear hg1))
    exact bodyPost_ret (v := .tuple #[.int .i64 (-(n : Int)), .bool true]) (by simp [results, Tryz.results112, go_sem]) rfl ⟨by rw [HF.out]; rfl, HG.out⟩
   ·have t1 : decide (a < 0) = false := decide_eq_false h0
    rw [if_neg h0] at hs
    have HF := hide hs
    clear hs h0 hf hb hn hx ha
    go_enter Tryz.func112, Tryz.ntmps112
    go_wp2_with (first
     | (go_at_call 139; (with_reducible refine (S1.out _).mono ?_); rintro e w1 ⟨rfl, rfl⟩)
     | (go_at_call 139; (with_reducible refine (S2.out _).mono ?_); rintro e w1 ⟨rfl, rfl⟩)
     | (go_at_call 139; (with_reducible refine (S3.out _).mono ?_); rintro e w1 ⟨rfl, rfl⟩)
     | (go_at_call 138; refine (M.out _).mono ?_; rintro e w1 ⟨rfl, rfl⟩)
     | (go_at_call 140; refine (D.out _).mono ?_; rintro e w1 ⟨rfl, hg1⟩; have HG := hide hg1; clear hg1))
    exact bodyPost_ret (v := .tuple #[.int .i64 (n : Int), .bool true]) (by simp [results, Tryz.results112, go_sem]) rfl ⟨by rw [HF.out]; rfl, HG.out⟩
  ·rw [if_neg hf] at hs
   have HF := hide hs
   have u2 : decide ((9223372036854775807 : Int) < (n : Int)) = true := decide_eq_true (by omega)
   have u2' : (9223372036854775807 : Int) < (n : Int) := by omega
   by_cases h0 : a < 0
   ·have t1 : decide (a < 0) = true := decide_eq_true h0
    clear hs h0 hf hb hn hx ha
    go_enter Tryz.func112, Tryz.ntmps112
    go_wp2_with (first
     | (go_at_call 139; (with_reducible refine (S1.out _).mono ?_); rintro e w1 ⟨rfl, rfl⟩)
     | (go_at_call 139; (with_reducible refine (S2.out _).mono ?_); rintro e w1 ⟨rfl, rfl⟩)
     | (go_at_call 139; (with_reducible refine (S3.out _).mono ?_); rintro e w1 ⟨rfl, rfl⟩)
     | (go_at_call 138; refine (M.out _).mono ?_; rintro e w1 ⟨rfl, rfl⟩)
     | (go_at_call 140; refine (D.out _).mono ?_; rintro e w1 ⟨rfl, hg1⟩; have HG := hide hg1; clear hg1))
    exact bodyPost_ret (v := .tuple #[.int .i64 0, .bool false]) (by simp [results, Tryz.results112, go_sem]) rfl ⟨by rw [HF.out]; rfl, HG.out⟩
   ·have t1 : decide (a < 0) = false := decide_eq_false h0
    clear hs h0 hf hb hn hx ha
    go_enter Tryz.func112, Tryz.ntmps112
    go_wp2_with (first
     | (go_at_call 139; (with_reducible refine (S1.out _).mono ?_); rintro e w1 ⟨rfl, rfl⟩)
     | (go_at_call 139; (with_reducible refine (S2.out _).mono ?_); rintro e w1 ⟨rfl, rfl⟩)
     | (go_at_call 139; (with_reducible refine (S3.out _).mono ?_); rintro e w1 ⟨rfl, rfl⟩)
     | (go_at_call 138; refine (M.out _).mono ?_; rintro e w1 ⟨rfl, rfl⟩)
     | (go_at_call 140; refine (D.out _).mono ?_; rintro e w1 ⟨rfl, hg1⟩; have HG := hide hg1; clear hg1))
    exact bodyPost_ret (v := .tuple #[.int .i64 0, .bool false]) (by simp [results, Tryz.results112, go_sem]) rfl ⟨by rw [HF.out]; rfl, HG.out⟩
 ·rw [if_neg (by omega)] at hs
  have HF := hide hs
  obtain ⟨hi, hhi⟩ : ∃ hi, hi = n / 18446744073709551616 := ⟨_, rfl⟩
  rw [← hhi] at M
  have v1 : (1 : Int) ≤ (hi : Int) := by omega
  generalize n % 18446744073709551616 = lo at *
  clear hs hb hn hx ha hhi
  by_cases h0 : a < 0
  ·have t1 : decide (a < 0) = true := decide_eq_true h0
   clear h0
   go_enter Tryz.func112, Tryz.ntmps112
   go_wp2_with (first
    | (go_at_call 139; (with_reducible refine (S1.out _).mono ?_); rintro e w1 ⟨rfl, rfl⟩)
    | (go_at_call 139; (with_reducible refine (S2.out _).mono ?_); rintro e w1 ⟨rfl, rfl⟩)
    | (go_at_call 139; (with_reducible refine (S3.out _).mono ?_); rintro e w1 ⟨rfl, rfl⟩)
    | (go_at_call 138; refine (M.out _).mono ?_; rintro e w1 ⟨rfl, rfl⟩)
    | (go_at_call 140; refine (D.out _).mono ?_; rintro e w1 ⟨rfl, hg1⟩; have HG := hide hg1; clear hg1))
   exact bodyPost_ret (v := .tuple #[.int .i64 0, .bool false]) (by simp [results, Tryz.results112, go_sem]) rfl ⟨by rw [HF.out]; rfl, gb_refl w none⟩
  ·have t1 : decide (a < 0) = false := decide_eq_false h0
   clear h0
   go_enter Tryz.func112, Tryz.ntmps112
   go_wp2_with (first
    | (go_at_call 139; (with_reducible refine (S1.out _).mono ?_); rintro e w1 ⟨rfl, rfl⟩)
    | (go_at_call 139; (with_reducible refine (S2.out _).mono ?_); rintro e w1 ⟨rfl, rfl⟩)
    | (go_at_call 139; (with_reducible refine (S3.out _).mono ?_); rintro e w1 ⟨rfl, rfl⟩)
    | (go_at_call 138; refine (M.out _).mono ?_; rintro e w1 ⟨rfl, rfl⟩)
    | (go_at_call 140; refine (D.out _).mono ?_; rintro e w1 ⟨rfl, hg1⟩; have HG := hide hg1; clear hg1))
   exact bodyPost_ret (v := .tuple #[.int .i64 0, .bool false]) (by simp [results, Tryz.results112, go_sem]) rfl ⟨by rw [HF.out]; rfl, gb_refl w none⟩
def decI (n : Int) : Option Int := if n = -9223372036854775808 then some n else sclI n 10000 1
def intI (n : Int) : Option Int := if n = -9223372036854775808 then some n else sclI n 1 10000
def toIntW (n : Int) : Int := if n = -9223372036854775808 then n else flq n 10000
theorem intI_some (n : Int) (h : I64 n) : intI n = some (toIntW n) := by
 unfold intI toIntW
 by_cases h0 : n = -9223372036854775808
 ·rw [if_pos h0, if_pos h0]
 ·rw [if_neg h0, if_neg h0, scl_int n (h.num h0)]
theorem toInt_any (n : Int) (h : I64 n) (w : World) : Calls Tryz.prog 73 #[.int .i64 n] w fun e w' => e = .returned (.tuple #[.int .i64 (toIntW n), .bool true]) ∧ w.grownBy w' none := by
 by_cases h0 : n = -9223372036854775808
 ·have HZ := hide (show toIntW n = n by unfold toIntW; rw [if_pos h0])
  have e0 := int_beq_t h0
  clear h0 h
  go_enter Tryz.func73, Tryz.ntmps73
  go_wp2_with fail
  exact bodyPost_ret (v := .tuple #[.int .i64 n, .bool true]) (by simp [results, Tryz.results73, go_sem]) rfl ⟨by rw [HZ.out], gb_refl w none⟩
 ·have HZ := hide (show toIntW n = flq n 10000 by unfold toIntW; rw [if_neg h0])
  have e0 := int_beq_f h0
  have HF := hide (frac_one n 10000 (h.num h0) ⟨by decide, by decide⟩ (by decide) w)
  clear h0 h
  generalize flq n 10000 = q at *
  go_enter Tryz.func73, Tryz.ntmps73
  go_wp2_with (go_at_call 112; refine (HF.out).mono ?_; rintro e w1 ⟨rfl, hg1⟩; have HG := hide hg1; clear hg1)
  exact bodyPost_ret (v := .tuple #[.int .i64 q, .bool true]) (by simp [results, Tryz.results73, go_sem]) rfl ⟨by rw [HZ.out], HG.out⟩
theorem toDec_any (n : Int) (h : I64 n) (w : World) : Calls Tryz.prog 74 #[.int .i64 n] w fun e w' => e = .returned (frT (decI n)) ∧ w.grownBy w' none := by
 by_cases h0 : n = -9223372036854775808
 ·have HZ := hide (show decI n = some n by unfold decI; rw [if_pos h0])
  have e0 := int_beq_t h0
  clear h0 h
  go_enter Tryz.func74, Tryz.ntmps74
  go_wp2_with fail
  exact bodyPost_ret (v := .tuple #[.int .i64 n, .bool true]) (by simp [results, Tryz.results74, go_sem]) rfl ⟨by rw [HZ.out]; rfl, gb_refl w none⟩
 ·have HZ := hide (show decI n = sclI n 10000 1 by unfold decI; rw [if_neg h0])
  have e0 := int_beq_f h0
  have hf := frac_dec n (h.num h0) w
  clear h0 h
  cases hq : sclI n 10000 1 with
  | none =>
   rw [hq] at hf
   have HZ2 := hide (HZ.out.trans hq)
   have HF := hide (show Calls Tryz.prog 112 #[.int .i64 n, .int .i64 10000, .int .i64 1] w fun e w' => e = .returned (.tuple #[.int .i64 0, .bool false]) ∧ w.grownBy w' none from hf)
   clear hf hq HZ
   go_enter Tryz.func74, Tryz.ntmps74
   go_wp2_with (go_at_call 112; refine (HF.out).mono ?_; rintro e w1 ⟨rfl, hg1⟩; have HG := hide hg1; clear hg1)
   exact bodyPost_ret (v := .tuple #[.int .i64 0, .bool false]) (by simp [results, Tryz.results74, go_sem]) rfl ⟨by rw [HZ2.out]; rfl, HG.out⟩
  | some q =>
   rw [hq] at hf
   have HZ2 := hide (HZ.out.trans hq)
   have HF := hide (show Calls Tryz.prog 112 #[.int .i64 n, .int .i64 10000, .int .i64 1] w fun e w' => e = .returned (.tuple #[.int .i64 q, .bool true]) ∧ w.grownBy w' none from hf)
   clear hf hq HZ
   go_enter Tryz.func74, Tryz.ntmps74
   go_wp2_with (go_at_call 112; refine (HF.out).mono ?_; rintro e w1 ⟨rfl, hg1⟩; have HG := hide hg1; clear hg1)
   exact bodyPost_ret (v := .tuple #[.int .i64 q, .bool true]) (by simp [results, Tryz.results74, go_sem]) rfl ⟨by rw [HZ2.out]; rfl, HG.out⟩
end Go.Proofs.YtbmgodmfpoappaaGreat
