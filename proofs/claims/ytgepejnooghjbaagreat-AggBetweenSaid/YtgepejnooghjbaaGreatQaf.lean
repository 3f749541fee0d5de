/-
  vec.fraction by one, quotient, remainder, sum: their contracts.
-/
import Derived.Test.YtgepejnooghjbaaGreatQac
import Derived.Test.YtgepejnooghjbaaGreatQae
import Derived.Deep.RegionLaw
import Derived.Deep.CutBlock
import Derived.Deep.DeepCutAuto

namespace Go.Proofs.YtgepejnooghjbaaGreat
open Go.RowKit
attribute [local go_sem ↓] Go.wp_at_zero Go.wp_at_succ

end Go.Proofs.YtgepejnooghjbaaGreat

/- The document's own column, Count, fields. -/
namespace Go.Proofs.YtgepejnooghjbaaGreat
open Go.RowKit
attribute [local go_sem ↓] Go.wp_at_zero Go.wp_at_succ

end Go.Proofs.YtgepejnooghjbaaGreat

namespace Go.Proofs.YtgepejnooghjbaaGreat
open Go.RowKit
attribute [local go_sem ↓] Go.wp_at_zero Go.wp_at_succ

end Go.Proofs.YtgepejnooghjbaaGreat

/- The document's own many, long: as the program's tooMany, tooLong. -/
namespace Go.Proofs.YtgepejnooghjbaaGreat
open Go.RowKit
attribute [local go_sem ↓] Go.wp_at_zero Go.wp_at_succ

end Go.Proofs.YtgepejnooghjbaaGreat

/- The document's own Depth. -/
namespace Go.Proofs.YtgepejnooghjbaaGreat
open Go.RowKit
attribute [local go_sem ↓] Go.wp_at_zero Go.wp_at_succ

end Go.Proofs.YtgepejnooghjbaaGreat

namespace Go.Proofs.YtgepejnooghjbaaGreat
open Go.RowKit
attribute [local go_sem ↓] Go.wp_at_zero Go.wp_at_succ

theorem vNum_any (t : Int) (c1 c2 c3 : Value) (w : World) : Calls Tryz.prog 115 #[.agg #[.int .i64 t, c1, c2, c3]] w fun e w' => e = .returned (.bool (hasN t)) ∧ w.grownBy w' none := by
  obtain ⟨wa, hwa⟩ : ∃ wa, wa = w.alloc (.cells #[.int .i64 t, c1, c2, c3] 26) := ⟨_, rfl⟩
  have hc := (C4.box w (.int .i64 t) c1 c2 c3 26).c0
  rw [← hwa] at hc
  have HG := hide (show w.grownBy wa none by rw [hwa]; exact gb_alloc (gb_refl w none) _)
  have HN := hide (hasN_any t)
  have HWE := hide hwa
  clear hwa
  go_enter Tryz.func115, Tryz.ntmps115
  go_wp2_with (go_at_call 86; refine (HN.out _).mono ?_; rintro e w1 ⟨rfl, rfl⟩)
  go_ret
  exact ⟨rfl, by have := HG.out; rwa [HWE.out] at this⟩
end Go.Proofs.YtgepejnooghjbaaGreat

namespace Go.Proofs.YtgepejnooghjbaaGreat
open Go.RowKit
attribute [local go_sem ↓] Go.wp_at_zero Go.wp_at_succ

/-- Is there a null at a place? -/
def nullV (v : Vl) (i : Int) : Bool :=
  if v.t = 2 ∨ v.t = 4 ∨ v.t = 5 ∨ v.t = -2 ∨ v.t = -4 ∨ v.t = -5 then (if 0 ≤ i ∧ i < (v.n.length : Int) then v.n.getD i.toNat 0 == -9223372036854775808 else false)
  else if v.t = 3 ∨ v.t = -3 then (if 0 ≤ i ∧ i < (v.s.length : Int) then (v.s.getD i.toNat ⟨#[]⟩).toList.isEmpty else false)
  else false
set_option maxHeartbeats 8000000 in
set_option maxRecDepth 100000 in
theorem vNull_num (v : Vl) (i : Int) (w : World) (B : Nat) (nA : Option Addr) (nc : Nat) (sA : Option Addr) (sc : Nat) (lA : Option Addr) (lc : Nat) (hty : v.t = 2 ∨ v.t = 4 ∨ v.t = 5 ∨ v.t = -2 ∨ v.t = -4 ∨ v.t = -5) (ht : v.tot ≤ 1100000) (hB : B ≤ w.heap.size) (h : VB w B v nA nc sA sc lA lc) :
    Calls Tryz.prog 138 #[.agg #[.int .i64 v.t, .slice nA v.n.length nc, .slice sA v.s.length sc, .slice lA v.l.length lc], .int .i64 i] w fun e w' => e = .returned (.bool (nullV v i)) ∧ w.grownBy w' none := by
  obtain ⟨wa, hwa⟩ : ∃ wa, wa = w.alloc (.cells #[.int .i64 v.t, .slice nA v.n.length nc, .slice sA v.s.length sc, .slice lA v.l.length lc] 26) := ⟨_, rfl⟩
  have hg : w.grownBy wa none := by rw [hwa]; exact gb_alloc (gb_refl w none) _
  have hc := C4.box w (.int .i64 v.t) (.slice nA v.n.length nc) (.slice sA v.s.length sc) (.slice lA v.l.length lc) 26
  rw [← hwa] at hc
  obtain ⟨b0, b1, b2, b3⟩ := hc
  have HV := hide (h.gb hg hB)
  have HBW := hide (Nat.le_trans hB hg.size)
  obtain ⟨l1, l2, l3, l4⟩ := Vl.lens v ht
  have HG := hide hg
  have HWE := hide hwa
  have hta := hty
  clear h hg hwa hB ht
  by_cases h0 : 0 ≤ i
  · by_cases h1 : i < (v.n.length : Int)
    · obtain ⟨k, rfl⟩ : ∃ k : Nat, i = (k : Int) := ⟨i.toNat, by omega⟩
      have hk : k < v.n.length := by omega
      obtain ⟨a, ha, _, hc⟩ := HV.out.n.i64 hk
      subst ha
      rw [HWE.out] at hc
      have HN := hide (show nullV v (k : Int) = (v.n[k] == -9223372036854775808) by unfold nullV; rw [if_pos hty, if_pos ⟨h0, h1⟩]; simp [List.getD_eq_getElem?_getD, hk])
      clear HV hty
      generalize v.n[k] = x at *
      generalize nullV v (k : Int) = r at *
      generalize v.t = t at *
      by_cases hx : x = -9223372036854775808
      · have hx1 : (x == -9223372036854775808) = true := int_beq_t hx
        rw [hx1] at HN
        clear hx
        rcases hta with rfl | rfl | rfl | rfl | rfl | rfl <;>
        · go_enter Tryz.func138, Tryz.ntmps138
          go_wp2_with fail
          rw [← HWE.out]
          go_wp2_with fail
          go_ret
          exact ⟨ret_b (by rw [HN.out]), HG.out⟩
      · have hx1 : (x == -9223372036854775808) = false := int_beq_f hx
        rw [hx1] at HN
        clear hx
        rcases hta with rfl | rfl | rfl | rfl | rfl | rfl <;>
        · go_enter Tryz.func138, Tryz.ntmps138
          go_wp2_with fail
          rw [← HWE.out]
          go_wp2_with fail
          go_ret
          exact ⟨ret_b (by rw [HN.out]), HG.out⟩
    · have HN := hide (show nullV v i = false by unfold nullV; rw [if_pos hty, if_neg (fun h => h1 h.2)])
      have h2 : (v.n.length : Int) ≤ i := by omega
      clear HV hty h1
      generalize nullV v i = r at *
      generalize v.t = t at *
      rcases hta with rfl | rfl | rfl | rfl | rfl | rfl <;>
      · go_enter Tryz.func138, Tryz.ntmps138
        go_wp2_with fail
        rw [← HWE.out]
        go_wp2_with fail
        go_ret
        exact ⟨ret_b (by rw [HN.out]), HG.out⟩
  · have HN := hide (show nullV v i = false by unfold nullV; rw [if_pos hty, if_neg (fun h => h0 h.1)])
    have h2 : i < 0 := by omega
    clear HV hty h0
    generalize nullV v i = r at *
    generalize v.t = t at *
    rcases hta with rfl | rfl | rfl | rfl | rfl | rfl <;>
    · go_enter Tryz.func138, Tryz.ntmps138
      go_wp2_with fail
      rw [← HWE.out]
      go_wp2_with fail
      go_ret
      exact ⟨ret_b (by rw [HN.out]), HG.out⟩
end Go.Proofs.YtgepejnooghjbaaGreat

namespace Go.Proofs.YtgepejnooghjbaaGreat
open Go.RowKit
attribute [local go_sem ↓] Go.wp_at_zero Go.wp_at_succ

/-- A number that is none's null. -/
def Num64 (n : Int) : Prop := -9223372036854775807 ≤ n ∧ n ≤ 9223372036854775807

theorem and_low32 (x : Nat) (h : x < 18446744073709551616) : bits .and .u64 (x : Int) 4294967295 = ((x % 4294967296 : Nat) : Int) := by
  show IntKind.u64.wrap ((BitVec.ofInt 64 (x : Int) &&& BitVec.ofInt 64 4294967295).toNat : Int) = _
  have e : BitVec.ofInt 64 4294967295 = BitVec.ofNat 64 4294967295 := by decide
  rw [e, BitVec.ofInt_natCast, BitVec.toNat_and, BitVec.toNat_ofNat, BitVec.toNat_ofNat, Nat.mod_eq_of_lt (by omega : x < 2 ^ 64), Nat.mod_eq_of_lt (by decide : 4294967295 < 2 ^ 64),
    show 4294967295 = 2 ^ 32 - 1 by decide, Nat.and_two_pow_sub_one_eq_mod, IntKind.wrap_u64]
  omega
set_option maxHeartbeats 1000000 in
theorem mul_one (x : Nat) (h : x < 9223372036854775808) (w : World) : Calls Tryz.prog 178 #[.int .u64 (x : Int), .int .u64 1] w fun e w' => e = .returned (.tuple #[.int .u64 0, .int .u64 (x : Int)]) ∧ w = w' := by
  have a1 := and_low32 x (by omega)
  have a2 : bits .and .u64 1 4294967295 = 1 := by decide
  have a3 := and_low32 (x / 4294967296) (by omega)
  obtain ⟨lo, hlo⟩ : ∃ lo, lo = x % 4294967296 := ⟨_, rfl⟩
  obtain ⟨hi, hhi⟩ : ∃ hi, hi = x / 4294967296 := ⟨_, rfl⟩
  have b1 : ((x : Int) / 4294967296) = (hi : Int) := by omega
  have b2 : lo < 4294967296 := by omega
  have b3 : hi < 4294967296 := by omega
  have a3' : bits .and .u64 (hi : Int) 4294967295 = (hi : Int) := by rw [hhi, a3]; omega
  rw [← hlo] at a1
  have b4 : ((lo : Int) / 4294967296) = 0 := by omega
  have b5 : ((hi : Int) / 4294967296) = 0 := by omega
  have c1 : IntKind.u64.wrap (lo : Int) = (lo : Int) := by rw [IntKind.wrap_u64]; omega
  have c2 : IntKind.u64.wrap (hi : Int) = (hi : Int) := by rw [IntKind.wrap_u64]; omega
  have c3 : IntKind.u64.wrap (x : Int) = (x : Int) := by rw [IntKind.wrap_u64]; omega
  have c4 : IntKind.u64.wrap 0 = 0 := by decide
  have c5 : IntKind.u64.wrap 1 = 1 := by decide
  clear hlo hhi a3 b2 b3 h
  go_enter Tryz.func178, Tryz.ntmps178
  go_wp2_with fail
  exact bodyPost_ret (v := .tuple #[.int .u64 0, .int .u64 (x : Int)]) (by simp [results, Tryz.results178, go_sem]) rfl ⟨rfl, rfl⟩
end Go.Proofs.YtgepejnooghjbaaGreat

namespace Go.Proofs.YtgepejnooghjbaaGreat
open Go.RowKit
attribute [local go_sem ↓] Go.wp_at_zero Go.wp_at_succ

set_option maxHeartbeats 1000000 in
set_option maxRecDepth 100000 in
theorem sum_ok (a b : Int) (hs : Num64 (a + b)) (w : World) :
    Calls Tryz.prog 146 #[.int .i64 a, .int .i64 b] w fun e w' => e = .returned (.tuple #[.int .i64 (a + b), .bool true]) ∧ w = w' := by
  obtain ⟨m, hme⟩ : ∃ m, m = a + b := ⟨_, rfl⟩
  have q0 : a + b = m := hme.symm
  rw [q0] at hs ⊢
  have q1 : IntKind.i64.wrap m = m := by rw [IntKind.wrap_i64]; have := hs.1; have := hs.2; omega
  have e0 : (m == -9223372036854775808) = false := int_beq_f (by have := hs.1; omega)
  have e1 : (decide (a < m) != decide (0 < b)) = false := by
    by_cases h : 0 < b
    · rw [decide_eq_true h, decide_eq_true (by omega)]; rfl
    · rw [decide_eq_false h, decide_eq_false (by omega)]; rfl
  clear hme hs
  cases h1 : decide (a < m) <;> cases h2 : decide (0 < b) <;> rw [h1, h2] at e1
  · clear e1
    go_enter Tryz.func146, Tryz.ntmps146
    go_wp2_with fail
    exact bodyPost_ret (v := .tuple #[.int .i64 m, .bool true]) (by simp [results, Tryz.results146, go_sem]) rfl ⟨rfl, rfl⟩
  · cases e1
  · cases e1
  · clear e1
    go_enter Tryz.func146, Tryz.ntmps146
    go_wp2_with fail
    exact bodyPost_ret (v := .tuple #[.int .i64 m, .bool true]) (by simp [results, Tryz.results146, go_sem]) rfl ⟨rfl, rfl⟩
end Go.Proofs.YtgepejnooghjbaaGreat
