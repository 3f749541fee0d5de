/-
  Small questions of a value, the program's and the document's: Size, Type, Numeric, Keyed, IsNull.
-/
import Derived.Shelf.Small.Strs
import Derived.Shelf.Strings.Search1
import Derived.Test.YtbmgodmfpoappaaGreatQKd
import Derived.Test.YtbmgodmfpoappaaGreatQKa
namespace Go.Proofs
open Go.Shelf
end Go.Proofs
namespace Go.Proofs.YtbmgodmfpoappaaGreat
open Go.RowKit
attribute [local go_sem ↓] Go.wp_at_zero Go.wp_at_succ
end Go.Proofs.YtbmgodmfpoappaaGreat
namespace Go.Proofs.YtbmgodmfpoappaaGreat
open Go.RowKit
attribute [local go_sem ↓] Go.wp_at_zero Go.wp_at_succ
def longS (m : Int) (s : ByteArray) : Bool := decide (m < (s.size : Int))
def IdxPost (b : Bool) (w : World) (e : Ending) (w' : World) : Prop := ∃ r : Int, e = .returned (.int .i64 r) ∧ decide (0 ≤ r) = b ∧ w.grownBy w' none
def inS (l : List ByteArray) (x : ByteArray) : Bool := l.any fun y => decide (y = x)
theorem inS_yes {l : List ByteArray} {x : ByteArray} (h : x ∈ l) : inS l x = true := List.any_eq_true.2 ⟨x, h, decide_eq_true rfl⟩
end Go.Proofs.YtbmgodmfpoappaaGreat
namespace Go.Proofs.YtbmgodmfpoappaaGreat
open Go.RowKit
attribute [local go_sem ↓] Go.wp_at_zero Go.wp_at_succ
end Go.Proofs.YtbmgodmfpoappaaGreat
/- Too many, too long, level, depth. -/
namespace Go.Proofs.YtbmgodmfpoappaaGreat
open Go.RowKit
attribute [local go_sem ↓] Go.wp_at_zero Go.wp_at_succ
def manyV (v : Vl) : Bool := if v.t = 98 then decide (64 < v.s.length) || decide (64 < v.l.length) else isSeq v && decide (65536 < v.count)
def tooLongV (v : Vl) : Bool := v.s.any (longS (if v.t = 100 then 65536 else 64))
/-! ## level -/
mutual
theorem Vl.depth_le_tot : ∀ v : Vl, v.depth ≤ v.tot
 | .mk t n s l => by
  have := Vl.depths_le_tots l
  simp only [Vl.depth, Vl.tot]
  omega
theorem Vl.depths_le_tots : ∀ l : List Vl, Vl.depths l ≤ Vl.tots l
 | [] => by simp [Vl.depths]
 | x :: r => by
  have h1 := Vl.depth_le_tot x
  have h2 := Vl.depths_le_tots r
  simp only [Vl.depths, Vl.tots]
  omega
end
end Go.Proofs.YtbmgodmfpoappaaGreat
namespace Go.Proofs.YtbmgodmfpoappaaGreat
open Go.RowKit
attribute [local go_sem ↓] Go.wp_at_zero Go.wp_at_succ
def fieldsT (t : Int) : Bool × Bool × Bool × Bool :=
 if rAbs t = 3 then (false, true, false, true) else if t ≠ 0 ∧ 1 ≤ rAbs t ∧ rAbs t ≤ 5 then (true, false, false, true) else if t = 0 ∨ t = 99 then (false, false, true, true)
 else if t = 98 then (false, true, true, true) else if t = 100 then (false, true, false, true) else (false, false, false, decide (t = 101))
def fieldsR (r : Bool × Bool × Bool × Bool) : Value := .tuple #[.bool r.1, .bool r.2.1, .bool r.2.2.1, .bool r.2.2.2]
set_option maxHeartbeats 8000000 in
set_option maxRecDepth 100000 in
theorem rFields_any (t : Int) (w : World) : Calls Tryz.prog 83 #[.int .i64 t] w fun e w' => e = .returned (fieldsR (fieldsT t)) ∧ w = w' := by
 have HA := hide (fun w2 => rAbs_any t w2)
 have HD := hide (show fieldsT t = if rAbs t = 3 then (false, true, false, true) else if t ≠ 0 ∧ 1 ≤ rAbs t ∧ rAbs t ≤ 5 then (true, false, false, true) else if t = 0 ∨ t = 99 then (false, false, true, true) else if t = 98 then (false, true, true, true) else if t = 100 then (false, true, false, true) else (false, false, false, decide (t = 101)) from rfl)
 have h00 : t = 0 → rAbs t = 0 := by intro h; subst h; rfl
 generalize rAbs t = a at *
 generalize fieldsT t = r at *
 by_cases h1 : a = 3
 ·rw [if_pos h1] at HD
  have e1 := int_beq_t h1
  rw [HD.out]
  clear h1 HD h00
  go_enter Tryz.func83, Tryz.ntmps83
  go_wp2_with (go_at_call 54; refine (HA.out _).mono ?_; rintro e w1 ⟨rfl, rfl⟩)
  refine bodyPost_ret (v := .tuple #[.bool false, .bool true, .bool false, .bool true]) (by simp [results, Tryz.results83, go_sem]) rfl ⟨rfl, rfl⟩
 rw [if_neg h1] at HD
 have e1 := int_beq_f h1
 clear h1
 by_cases h2 : t ≠ 0 ∧ 1 ≤ a ∧ a ≤ 5
 ·rw [if_pos h2] at HD
  rw [HD.out]
  have e2 := int_bne_f h2.1
  have h3 := h2.2.1
  have h4 := h2.2.2
  clear h2 HD h00
  go_enter Tryz.func83, Tryz.ntmps83
  go_wp2_with (go_at_call 54; refine (HA.out _).mono ?_; rintro e w1 ⟨rfl, rfl⟩)
  refine bodyPost_ret (v := .tuple #[.bool true, .bool false, .bool false, .bool true]) (by simp [results, Tryz.results83, go_sem]) rfl ⟨rfl, rfl⟩
 rw [if_neg h2] at HD
 by_cases h0 : t = 0
 ·rw [if_pos (.inl h0)] at HD
  rw [HD.out]
  have ha := h00 h0
  subst ha
  subst h0
  clear h2 HD h00 e1
  go_enter Tryz.func83, Tryz.ntmps83
  go_wp2_with (go_at_call 54; refine (HA.out _).mono ?_; rintro e w1 ⟨rfl, rfl⟩)
  refine bodyPost_ret (v := .tuple #[.bool false, .bool false, .bool true, .bool true]) (by simp [results, Tryz.results83, go_sem]) rfl ⟨rfl, rfl⟩
 have e2 := int_bne_f h0
 have e0 := int_beq_f h0
 by_cases h3 : 1 ≤ a
 ·have h4 : 5 < a := by
   by_cases h5 : a ≤ 5
   ·exact absurd ⟨h0, h3, h5⟩ h2
   ·omega
  clear h2 h00
  by_cases h5 : t = 99
  ·rw [if_pos (.inr h5)] at HD
   rw [HD.out]
   have e5 := int_beq_t h5
   clear h5 HD h0
   go_enter Tryz.func83, Tryz.ntmps83
   go_wp2_with (go_at_call 54; refine (HA.out _).mono ?_; rintro e w1 ⟨rfl, rfl⟩)
   refine bodyPost_ret (v := .tuple #[.bool false, .bool false, .bool true, .bool true]) (by simp [results, Tryz.results83, go_sem]) rfl ⟨rfl, rfl⟩
  rw [if_neg (by simp [h0, h5])] at HD
  have e5 := int_beq_f h5
  by_cases h6 : t = 98
  ·rw [if_pos h6] at HD
   rw [HD.out]
   have e6 := int_beq_t h6
   clear h5 h6 HD h0
   go_enter Tryz.func83, Tryz.ntmps83
   go_wp2_with (go_at_call 54; refine (HA.out _).mono ?_; rintro e w1 ⟨rfl, rfl⟩)
   refine bodyPost_ret (v := .tuple #[.bool false, .bool true, .bool true, .bool true]) (by simp [results, Tryz.results83, go_sem]) rfl ⟨rfl, rfl⟩
  rw [if_neg h6] at HD
  have e6 := int_beq_f h6
  by_cases h7 : t = 100
  ·rw [if_pos h7] at HD
   rw [HD.out]
   have e7 := int_beq_t h7
   clear h5 h6 h7 HD h0
   go_enter Tryz.func83, Tryz.ntmps83
   go_wp2_with (go_at_call 54; refine (HA.out _).mono ?_; rintro e w1 ⟨rfl, rfl⟩)
   refine bodyPost_ret (v := .tuple #[.bool false, .bool true, .bool false, .bool true]) (by simp [results, Tryz.results83, go_sem]) rfl ⟨rfl, rfl⟩
  rw [if_neg h7] at HD
  have e7 := int_beq_f h7
  by_cases h8 : t = 101
  ·rw [decide_eq_true h8] at HD
   rw [HD.out]
   have e8 := int_beq_t h8
   clear h5 h6 h7 h8 HD h0
   go_enter Tryz.func83, Tryz.ntmps83
   go_wp2_with (go_at_call 54; refine (HA.out _).mono ?_; rintro e w1 ⟨rfl, rfl⟩)
   refine bodyPost_ret (v := .tuple #[.bool false, .bool false, .bool false, .bool true]) (by simp [results, Tryz.results83, go_sem]) rfl ⟨rfl, rfl⟩
  rw [decide_eq_false h8] at HD
  rw [HD.out]
  have e8 := int_beq_f h8
  clear h5 h6 h7 h8 HD h0
  go_enter Tryz.func83, Tryz.ntmps83
  go_wp2_with (go_at_call 54; refine (HA.out _).mono ?_; rintro e w1 ⟨rfl, rfl⟩)
  refine bodyPost_ret (v := .tuple #[.bool false, .bool false, .bool false, .bool false]) (by simp [results, Tryz.results83, go_sem]) rfl ⟨rfl, rfl⟩
 ·have h4 : a < 1 := by omega
  clear h2 h00 h3
  by_cases h5 : t = 99
  ·rw [if_pos (.inr h5)] at HD
   rw [HD.out]
   have e5 := int_beq_t h5
   clear h5 HD h0
   go_enter Tryz.func83, Tryz.ntmps83
   go_wp2_with (go_at_call 54; refine (HA.out _).mono ?_; rintro e w1 ⟨rfl, rfl⟩)
   refine bodyPost_ret (v := .tuple #[.bool false, .bool false, .bool true, .bool true]) (by simp [results, Tryz.results83, go_sem]) rfl ⟨rfl, rfl⟩
  rw [if_neg (by simp [h0, h5])] at HD
  have e5 := int_beq_f h5
  by_cases h6 : t = 98
  ·rw [if_pos h6] at HD
   rw [HD.out]
   have e6 := int_beq_t h6
   clear h5 h6 HD h0
   go_enter Tryz.func83, Tryz.ntmps83
   go_wp2_with (go_at_call 54; refine (HA.out _).mono ?_; rintro e w1 ⟨rfl, rfl⟩)
   refine bodyPost_ret (v := .tuple #[.bool false, .bool true, .bool true, .bool true]) (by simp [results, Tryz.results83, go_sem]) rfl ⟨rfl, rfl⟩
  rw [if_neg h6] at HD
  have e6 := int_beq_f h6
  by_cases h7 : t = 100
  ·rw [if_pos h7] at HD
   rw [HD.out]
   have e7 := int_beq_t h7
   clear h5 h6 h7 HD h0
   go_enter Tryz.func83, Tryz.ntmps83
   go_wp2_with (go_at_call 54; refine (HA.out _).mono ?_; rintro e w1 ⟨rfl, rfl⟩)
   refine bodyPost_ret (v := .tuple #[.bool false, .bool true, .bool false, .bool true]) (by simp [results, Tryz.results83, go_sem]) rfl ⟨rfl, rfl⟩
  rw [if_neg h7] at HD
  have e7 := int_beq_f h7
  by_cases h8 : t = 101
  ·rw [decide_eq_true h8] at HD
   rw [HD.out]
   have e8 := int_beq_t h8
   clear h5 h6 h7 h8 HD h0
   go_enter Tryz.func83, Tryz.ntmps83
   go_wp2_with (go_at_call 54; refine (HA.out _).mono ?_; rintro e w1 ⟨rfl, rfl⟩)
   refine bodyPost_ret (v := .tuple #[.bool false, .bool false, .bool false, .bool true]) (by simp [results, Tryz.results83, go_sem]) rfl ⟨rfl, rfl⟩
  rw [decide_eq_false h8] at HD
  rw [HD.out]
  have e8 := int_beq_f h8
  clear h5 h6 h7 h8 HD h0
  go_enter Tryz.func83, Tryz.ntmps83
  go_wp2_with (go_at_call 54; refine (HA.out _).mono ?_; rintro e w1 ⟨rfl, rfl⟩)
  refine bodyPost_ret (v := .tuple #[.bool false, .bool false, .bool false, .bool false]) (by simp [results, Tryz.results83, go_sem]) rfl ⟨rfl, rfl⟩
end Go.Proofs.YtbmgodmfpoappaaGreat
/- The document's own many, long: as the program's tooMany, tooLong. -/
namespace Go.Proofs.YtbmgodmfpoappaaGreat
open Go.RowKit
attribute [local go_sem ↓] Go.wp_at_zero Go.wp_at_succ
set_option maxHeartbeats 8000000 in
set_option maxRecDepth 100000 in
theorem rMany_any (v : Vl) (w : World) (B : Nat) (nA : Option Addr) (nc : Nat) (sA : Option Addr) (sc : Nat) (lA : Option Addr) (lc : Nat) (ht : v.tot ≤ 1200000000) (hB : B ≤ w.heap.size) (h : VB w B v nA nc sA sc lA lc) :
  Calls Tryz.prog 84 #[.agg #[.int .i64 v.t, .slice nA v.n.length nc, .slice sA v.s.length sc, .slice lA v.l.length lc]] w fun e w' => e = .returned (.bool (manyV v)) ∧ w.grownBy w' none := by
 obtain ⟨l1, l2, l3, l4⟩ := Vl.lens v ht
 obtain ⟨wa, hwa⟩ : ∃ wa, wa = w.alloc (.cells #[.int .i64 v.t, .slice nA v.n.length nc, .slice sA v.s.length sc, .slice lA v.l.length lc] 26) := ⟨_, rfl⟩
 have hg : w.grownBy wa none := by rw [hwa]; exact gb_alloc (gb_refl w none) _
 have hc := C4.box w (.int .i64 v.t) (.slice nA v.n.length nc) (.slice sA v.s.length sc) (.slice lA v.l.length lc) 26
 rw [← hwa] at hc
 have b0 : wa.cell? ⟨w.heap.size, 0, none⟩ = some (.int .i64 v.t) := hc.c0
 have b1 : wa.cell? ⟨w.heap.size, 1, none⟩ = some (.slice nA v.n.length nc) := hc.c1
 have b2 : wa.cell? ⟨w.heap.size, 2, none⟩ = some (.slice sA v.s.length sc) := hc.c2
 have b3 : wa.cell? ⟨w.heap.size, 3, none⟩ = some (.slice lA v.l.length lc) := hc.c3
 have hbw := Nat.le_trans hB hg.size
 have HV := hide (h.gb hg hB)
 have HBW := hide hbw
 have HG := hide hg
 have HWE := hide hwa
 have HVEC := hide (fun w2 => rVec_any v.t (.slice nA v.n.length nc) (.slice sA v.s.length sc) (.slice lA v.l.length lc) w2)
 have hm : manyV v = if v.t = 98 then decide (64 < v.s.length) || decide (64 < v.l.length) else isSeq v && decide (65536 < v.count) := rfl
 have hq : isSeq v = (v.t == 0 || (decide (0 < v.t) && (hasN v.t || hasS v.t))) := rfl
 have hcn := Vl.count_def v
 clear ht hB h hg hwa hc hbw
 by_cases h3 : v.t = 3
 ·have HD : Hid (manyV v = decide ((65536 : Int) < (v.s.length : Int))) := hide (by rw [hm, hq, hcn, h3]; simp [hasN, hasS, decide_eq_decide]; omega)
  rw [HD.out]
  have e3 := int_beq_t h3
  clear h3 hm hq hcn HD
  go_enter Tryz.func84, Tryz.ntmps84
  go_wp2_with fail
  rw [← HWE.out]
  go_wp2_with fail
  go_ret
  exact ⟨rfl, HG.out⟩
 have e3 := int_beq_f h3
 by_cases hv : v.t = 1 ∨ v.t = 2 ∨ v.t = 4 ∨ v.t = 5
 ·have HD : Hid (manyV v = decide ((65536 : Int) < (v.n.length : Int))) := hide (by rcases hv with h | h | h | h <;> (rw [hm, hq, hcn, h]; simp [hasN, hasS, decide_eq_decide]; omega))
  rw [HD.out]
  have hvec : rVec v.t = true := by unfold rVec; rcases hv with h | h | h | h <;> rw [h] <;> rfl
  rw [hvec] at HVEC
  clear h3 hv hvec hm hq hcn HD
  go_enter Tryz.func84, Tryz.ntmps84
  go_wp2_with (go_at_call 69; rw [← HWE.out]; refine (HVEC.out _).mono ?_; rintro e w1 ⟨rfl, hg1⟩; have b0 := cell_gb b0 hg1; have b1 := cell_gb b1 hg1; have b2 := cell_gb b2 hg1; have b3 := cell_gb b3 hg1; have HG1 := hide hg1; clear hg1)
  go_ret
  exact ⟨rfl, gb_trans HG.out HG1.out (.inl rfl)⟩
 have hvec : rVec v.t = false := by
  unfold rVec
  simp only [not_or] at hv
  by_cases ha : 1 ≤ v.t
  ·by_cases hb : v.t ≤ 5
   ·omega
   ·simp [hb]
  ·simp [ha]
 rw [hvec] at HVEC
 clear hvec
 by_cases h98 : v.t = 98
 ·rw [if_pos h98] at hm
  have e98 := int_beq_t h98
  have HM := hide hm
  clear h3 hv h98 hm hq hcn
  by_cases hs : 64 < v.s.length
  ·have hs1 : (64 : Int) < (v.s.length : Int) := by omega
   have HD : Hid (manyV v = true) := hide (by rw [HM.out]; simp [hs])
   rw [HD.out]
   clear hs HD HM
   go_enter Tryz.func84, Tryz.ntmps84
   go_wp2_with (go_at_call 69; rw [← HWE.out]; refine (HVEC.out _).mono ?_; rintro e w1 ⟨rfl, hg1⟩; have b0 := cell_gb b0 hg1; have b1 := cell_gb b1 hg1; have b2 := cell_gb b2 hg1; have b3 := cell_gb b3 hg1; have HG1 := hide hg1; clear hg1)
   go_ret
   exact ⟨ret_b (by simp), gb_trans HG.out HG1.out (.inl rfl)⟩
  ·have hs1 : ¬ (64 : Int) < (v.s.length : Int) := by omega
   have HD : Hid (manyV v = decide ((64 : Int) < (v.l.length : Int))) := hide (by rw [HM.out]; simp [hs, decide_eq_decide]; omega)
   rw [HD.out]
   clear hs HD HM
   go_enter Tryz.func84, Tryz.ntmps84
   go_wp2_with (go_at_call 69; rw [← HWE.out]; refine (HVEC.out _).mono ?_; rintro e w1 ⟨rfl, hg1⟩; have b0 := cell_gb b0 hg1; have b1 := cell_gb b1 hg1; have b2 := cell_gb b2 hg1; have b3 := cell_gb b3 hg1; have HG1 := hide hg1; clear hg1)
   go_ret
   exact ⟨ret_b (by simp; omega), gb_trans HG.out HG1.out (.inl rfl)⟩
 rw [if_neg h98] at hm
 have e98 := int_beq_f h98
 by_cases h0 : v.t = 0
 ·have HD : Hid (manyV v = decide ((65536 : Int) < (v.l.length : Int))) := hide (by rw [hm, hq, hcn, h0]; simp [decide_eq_decide]; omega)
  rw [HD.out]
  have e0 := int_beq_t h0
  clear h0 h3 hv h98 hm hq hcn HD
  go_enter Tryz.func84, Tryz.ntmps84
  go_wp2_with (go_at_call 69; rw [← HWE.out]; refine (HVEC.out _).mono ?_; rintro e w1 ⟨rfl, hg1⟩; have b0 := cell_gb b0 hg1; have b1 := cell_gb b1 hg1; have b2 := cell_gb b2 hg1; have b3 := cell_gb b3 hg1; have HG1 := hide hg1; clear hg1)
  go_ret
  exact ⟨ret_b (by simp), gb_trans HG.out HG1.out (.inl rfl)⟩
 ·have HD : Hid (manyV v = false) := hide (by
   have hsq : isSeq v = false := by
    rw [hq]
    simp only [not_or] at hv
    by_cases hp : 0 < v.t
    ·simp only [hasN, hasS, int_beq_f h0, int_beq_f h3, int_beq_f hv.1, int_beq_f hv.2.1, int_beq_f hv.2.2.1, int_beq_f hv.2.2.2, int_beq_f (show ¬ v.t = -1 by omega), int_beq_f (show ¬ v.t = -2 by omega), int_beq_f (show ¬ v.t = -3 by omega), int_beq_f (show ¬ v.t = -4 by omega), int_beq_f (show ¬ v.t = -5 by omega)]
     simp
    ·rw [int_beq_f h0, decide_eq_false hp]; rfl
   rw [hm, hsq]; rfl)
  rw [HD.out]
  have e0 := int_beq_f h0
  clear h0 h3 hv h98 hm hq hcn HD
  go_enter Tryz.func84, Tryz.ntmps84
  go_wp2_with (go_at_call 69; rw [← HWE.out]; refine (HVEC.out _).mono ?_; rintro e w1 ⟨rfl, hg1⟩; have b0 := cell_gb b0 hg1; have b1 := cell_gb b1 hg1; have b2 := cell_gb b2 hg1; have b3 := cell_gb b3 hg1; have HG1 := hide hg1; clear hg1)
  go_ret
  exact ⟨ret_b (by simp), gb_trans HG.out HG1.out (.inl rfl)⟩
set_option maxHeartbeats 8000000 in
set_option maxRecDepth 100000 in
theorem rLong_any (v : Vl) (w : World) (B : Nat) (nA : Option Addr) (nc : Nat) (sA : Option Addr) (sc : Nat) (lA : Option Addr) (lc : Nat) (ht : v.tot ≤ 1200000000) (hB : B ≤ w.heap.size) (h : VB w B v nA nc sA sc lA lc) :
  Calls Tryz.prog 85 #[.agg #[.int .i64 v.t, .slice nA v.n.length nc, .slice sA v.s.length sc, .slice lA v.l.length lc]] w fun e w' => e = .returned (.bool (tooLongV v)) ∧ w.grownBy w' none := by
 obtain ⟨l1, l2, l3, l4⟩ := Vl.lens v ht
 obtain ⟨wa, hwa⟩ : ∃ wa, wa = w.alloc (.cells #[.int .i64 v.t, .slice nA v.n.length nc, .slice sA v.s.length sc, .slice lA v.l.length lc] 26) := ⟨_, rfl⟩
 have hg : w.grownBy wa none := by rw [hwa]; exact gb_alloc (gb_refl w none) _
 have hc := C4.box w (.int .i64 v.t) (.slice nA v.n.length nc) (.slice sA v.s.length sc) (.slice lA v.l.length lc) 26
 rw [← hwa] at hc
 have b0 : wa.cell? ⟨w.heap.size, 0, none⟩ = some (.int .i64 v.t) := hc.c0
 have b1 : wa.cell? ⟨w.heap.size, 1, none⟩ = some (.slice nA v.n.length nc) := hc.c1
 have b2 : wa.cell? ⟨w.heap.size, 2, none⟩ = some (.slice sA v.s.length sc) := hc.c2
 have b3 : wa.cell? ⟨w.heap.size, 3, none⟩ = some (.slice lA v.l.length lc) := hc.c3
 have hbw := Nat.le_trans hB hg.size
 have HV := hide (h.gb hg hB)
 have HBW := hide hbw
 have HG := hide hg
 have HWE := hide hwa
 have HD := hide (show tooLongV v = v.s.any (longS (if v.t = 100 then 65536 else 64)) from rfl)
 clear ht hB h hg hwa hc hbw
 by_cases h100 : v.t = 100
 ·rw [if_pos h100] at HD
  have e100 := int_beq_t h100
  rw [HD.out]
  clear h100 HD
  go_enter Tryz.func85, Tryz.ntmps85
  go_wp2_with fail
  rw [← HWE.out]
  go_wp2_with fail
  go_loopw [4] (fun i wr => ∃ j : Nat, i = .int .i64 (j : Int) ∧ j ≤ v.s.length ∧ Hid ((v.s.take j).any (longS 65536) = false) ∧ wa = wr) (fun i _ => v.s.length - (intOf i).toNat)
  case atStart => exact ⟨0, rfl, Nat.zero_le _, hide (by simp), rfl⟩
  case round =>
   obtain ⟨j, rfl, hj, HE, rfl⟩ := hrel
   by_cases hlt : j < v.s.length
   ·have hlt1 : (j : Int) < (v.s.length : Int) := by omega
    obtain ⟨a, rfl, _, ca⟩ := HV.out.s.str hlt
    have HL := hide (show v.s.take (j + 1) = v.s.take j ++ [v.s[j]] from List.take_succ_eq_append_getElem hlt)
    have HA : Hid (longS 65536 v.s[j] = true → v.s.any (longS 65536) = true) := hide (fun h => List.any_eq_true.2 ⟨_, List.getElem_mem hlt, h⟩)
    by_cases hp : ((65536 : Nat) : Int) < (v.s[j].size : Int)
    ·have HR := hide (HA.out (by unfold longS; exact decide_eq_true hp))
     have hp1 : (65536 : Int) < (v.s[j].size : Int) := hp
     clear hp HA
     go_wp2_with fail
     go_ret
     exact ⟨ret_b HR.out.symm, HG.out⟩
    ·have hp1 : ¬ (65536 : Int) < (v.s[j].size : Int) := hp
     have HP := hide (show longS 65536 v.s[j] = false by unfold longS; exact decide_eq_false hp)
     clear hp
     go_wp2_with fail
     go_roundw
     case rel => exact ⟨j + 1, by go_num, by omega, hide (by rw [HL.out, List.any_append, HE.out]; simp [HP.out]), trivial⟩
     case measure => simp [intOf]; omega
   ·have hlt1 : ¬ (j : Int) < (v.s.length : Int) := by omega
    have HR := hide (show v.s.any (longS 65536) = false by rw [List.take_of_length_le (by omega)] at HE; exact HE.out)
    go_wp2_with fail
    go_ret
    exact ⟨ret_b HR.out.symm, HG.out⟩
 ·rw [if_neg h100] at HD
  have e100 := int_beq_f h100
  rw [HD.out]
  clear h100 HD
  go_enter Tryz.func85, Tryz.ntmps85
  go_wp2_with fail
  rw [← HWE.out]
  go_wp2_with fail
  go_loopw [4] (fun i wr => ∃ j : Nat, i = .int .i64 (j : Int) ∧ j ≤ v.s.length ∧ Hid ((v.s.take j).any (longS 64) = false) ∧ wa = wr) (fun i _ => v.s.length - (intOf i).toNat)
  case atStart => exact ⟨0, rfl, Nat.zero_le _, hide (by simp), rfl⟩
  case round =>
   obtain ⟨j, rfl, hj, HE, rfl⟩ := hrel
   by_cases hlt : j < v.s.length
   ·have hlt1 : (j : Int) < (v.s.length : Int) := by omega
    obtain ⟨a, rfl, _, ca⟩ := HV.out.s.str hlt
    have HL := hide (show v.s.take (j + 1) = v.s.take j ++ [v.s[j]] from List.take_succ_eq_append_getElem hlt)
    have HA : Hid (longS 64 v.s[j] = true → v.s.any (longS 64) = true) := hide (fun h => List.any_eq_true.2 ⟨_, List.getElem_mem hlt, h⟩)
    by_cases hp : ((64 : Nat) : Int) < (v.s[j].size : Int)
    ·have HR := hide (HA.out (by unfold longS; exact decide_eq_true hp))
     have hp1 : (64 : Int) < (v.s[j].size : Int) := hp
     clear hp HA
     go_wp2_with fail
     go_ret
     exact ⟨ret_b HR.out.symm, HG.out⟩
    ·have hp1 : ¬ (64 : Int) < (v.s[j].size : Int) := hp
     have HP := hide (show longS 64 v.s[j] = false by unfold longS; exact decide_eq_false hp)
     clear hp
     go_wp2_with fail
     go_roundw
     case rel => exact ⟨j + 1, by go_num, by omega, hide (by rw [HL.out, List.any_append, HE.out]; simp [HP.out]), trivial⟩
     case measure => simp [intOf]; omega
   ·have hlt1 : ¬ (j : Int) < (v.s.length : Int) := by omega
    have HR := hide (show v.s.any (longS 64) = false by rw [List.take_of_length_le (by omega)] at HE; exact HE.out)
    go_wp2_with fail
    go_ret
    exact ⟨ret_b HR.out.symm, HG.out⟩
end Go.Proofs.YtbmgodmfpoappaaGreat
/- The document's own Depth. -/
namespace Go.Proofs.YtbmgodmfpoappaaGreat
open Go.RowKit
attribute [local go_sem ↓] Go.wp_at_zero Go.wp_at_succ
set_option maxHeartbeats 8000000 in
set_option maxRecDepth 100000 in
theorem rDepth_d (d : Nat) : ∀ (v : Vl) (w : World) (B : Nat) (nA : Option Addr) (nc : Nat) (sA : Option Addr) (sc : Nat) (lA : Option Addr) (lc : Nat), v.depth ≤ d → v.tot ≤ 1200000000 → B ≤ w.heap.size → VB w B v nA nc sA sc lA lc →
  Calls Tryz.prog 49 #[.agg #[.int .i64 v.t, .slice nA v.n.length nc, .slice sA v.s.length sc, .slice lA v.l.length lc]] w fun e w' => e = .returned (.int .i64 (v.depth : Nat)) ∧ w.grownBy w' none := by
 induction d with
 | zero => intro v; intros; rw [Vl.depth_def] at *; omega
 | succ d ih =>
  intro v w B nA nc sA sc lA lc hd ht hB h
  obtain ⟨l1, l2, l3, l4⟩ := Vl.lens v ht
  obtain ⟨wa, hwa⟩ : ∃ wa, wa = w.alloc (.cells #[.int .i64 v.t, .slice nA v.n.length nc, .slice sA v.s.length sc, .slice lA v.l.length lc] 26) := ⟨_, rfl⟩
  have hg : w.grownBy wa none := by rw [hwa]; exact gb_alloc (gb_refl w none) _
  have hc := C4.box w (.int .i64 v.t) (.slice nA v.n.length nc) (.slice sA v.s.length sc) (.slice lA v.l.length lc) 26
  rw [← hwa] at hc
  have b0 : wa.cell? ⟨w.heap.size, 0, none⟩ = some (.int .i64 v.t) := hc.c0
  have b1 : wa.cell? ⟨w.heap.size, 1, none⟩ = some (.slice nA v.n.length nc) := hc.c1
  have b2 : wa.cell? ⟨w.heap.size, 2, none⟩ = some (.slice sA v.s.length sc) := hc.c2
  have b3 : wa.cell? ⟨w.heap.size, 3, none⟩ = some (.slice lA v.l.length lc) := hc.c3
  have hbw := Nat.le_trans hB hg.size
  have HV := hide (h.gb hg hB)
  have HBW := hide hbw
  have HG := hide hg
  have HWE := hide hwa
  have FIN := hide (show w.grownBy (w.alloc (.cells #[.int .i64 v.t, .slice nA v.n.length nc, .slice sA v.s.length sc, .slice lA v.l.length lc] 26)) none from gb_alloc (gb_refl w none) _)
  have IH := hide ih
  have HDD := hide hd
  have HTT := hide ht
  have HDEF := hide (Vl.depth_def v)
  have hdl : ∀ j, Vl.depths (v.l.take j) ≤ 1200000000 := fun j => by
   have h1 := Vl.depths_le_tots (v.l.take j)
   have h2 := Vl.tots_take_le v.l j
   omega
  have HDL := hide hdl
  clear ih hd ht hB h hg hwa hc hbw hdl
  go_enter Tryz.func49, Tryz.ntmps49
  go_wp2_with fail
  rw [← HWE.out]
  go_loopw [3, 4] (fun n i wr => ∃ j : Nat, i = .int .i64 (j : Int) ∧ j ≤ v.l.length ∧ n = .int .i64 (Vl.depths (v.l.take j) : Nat) ∧ wa.grownBy wr none) (fun _ i _ => v.l.length - (intOf i).toNat)
  case atStart => exact ⟨0, rfl, Nat.zero_le _, rfl, gb_refl wa none⟩
  case round =>
   obtain ⟨j, rfl, hj, rfl, hgr⟩ := hrel
   by_cases hlt : j < v.l.length
   ·have hlt1 : (j : Int) < (v.l.length : Int) := by omega
    obtain ⟨q, o, xA, xc, yA, yc, zA, zc, rfl, hqB, hc4, hvb⟩ := HV.out.l.at_ hlt
    obtain ⟨d0, d1, d2, d3⟩ := hc4.gb hgr
    have b3 := cell_gb b3 hgr
    have HREC := hide (IH.out v.l[j] wr B xA xc yA yc zA zc (Vl.depth_part HDD.out (List.getElem_mem hlt)) (Vl.tot_part HTT.out (List.getElem_mem hlt)) (Nat.le_trans HBW.out hgr.size) (hvb.gb hgr HBW.out))
    have HGW := hide hgr
    have HTK := hide (Vl.depths_take v.l j hlt)
    have hdb := HDL.out j
    have hdx : v.l[j].depth ≤ 1200000000 := by have := HDL.out (j + 1); rw [HTK.out] at this; omega
    clear hc4 hvb hgr
    generalize v.l[j].depth = x at *
    generalize Vl.depths (v.l.take j) = y at *
    by_cases hxy : x ≤ y
    ·have hm : max (y : Int) (x : Int) = (y : Int) := by omega
     have HM := hide (show max y x = y by omega)
     clear hxy
     go_wp2_with (go_at_call 49; refine HREC.out.mono ?_; rintro e w1 ⟨rfl, hg1⟩; have HG1 := hide hg1; clear hg1)
     go_roundw
     case rel => exact ⟨j + 1, by go_num, by omega, by rw [HTK.out, HM.out], gb_trans HGW.out HG1.out (.inl rfl)⟩
     case measure => simp [intOf]; omega
    ·have hm : max (y : Int) (x : Int) = (x : Int) := by omega
     have HM := hide (show max y x = x by omega)
     have HLT := hide (show y < x by omega)
     clear hxy
     go_wp2_with (go_at_call 49; refine HREC.out.mono ?_; rintro e w1 ⟨rfl, hg1⟩; have HG1 := hide hg1; clear hg1)
     go_roundw
     case rel => exact ⟨j + 1, by go_num, by omega, by rw [HTK.out, HM.out]; all_goals (first | rfl | (have h := HLT.out; simp [h])), gb_trans HGW.out HG1.out (.inl rfl)⟩
     case measure => simp [intOf]; omega
   ·have hlt1 : ¬ (j : Int) < (v.l.length : Int) := by omega
    have HTE := hide (show v.l.take j = v.l from List.take_of_length_le (by omega))
    have hdb := HDL.out j
    rw [HTE.out] at hdb ⊢
    have HGR := hide hgr
    have b3 := cell_gb b3 hgr
    have HR : Hid ((Vl.depths v.l : Int) + 1 = (v.depth : Nat)) := hide (by rw [HDEF.out]; omega)
    clear hgr
    generalize Vl.depths v.l = y at *
    go_wp2_with fail
    go_ret
    exact ⟨ret_i HR.out, gb_trans HG.out HGR.out (.inl rfl)⟩
theorem rDepth_any (v : Vl) (w : World) (B : Nat) (nA : Option Addr) (nc : Nat) (sA : Option Addr) (sc : Nat) (lA : Option Addr) (lc : Nat) (ht : v.tot ≤ 1200000000) (hB : B ≤ w.heap.size) (h : VB w B v nA nc sA sc lA lc) :
  Calls Tryz.prog 49 #[.agg #[.int .i64 v.t, .slice nA v.n.length nc, .slice sA v.s.length sc, .slice lA v.l.length lc]] w fun e w' => e = .returned (.int .i64 (v.depth : Nat)) ∧ w.grownBy w' none := rDepth_d v.depth v w B nA nc sA sc lA lc (Nat.le_refl _) ht hB h
end Go.Proofs.YtbmgodmfpoappaaGreat
namespace Go.Proofs.YtbmgodmfpoappaaGreat
open Go.RowKit
attribute [local go_sem ↓] Go.wp_at_zero Go.wp_at_succ
theorem vNum_any (t : Int) (c1 c2 c3 : Value) (w : World) : Calls Tryz.prog 34 #[.agg #[.int .i64 t, c1, c2, c3]] w fun e w' => e = .returned (.bool (hasN t)) ∧ w.grownBy w' none := by
 obtain ⟨wa, hwa⟩ : ∃ wa, wa = w.alloc (.cells #[.int .i64 t, c1, c2, c3] 26) := ⟨_, rfl⟩
 have hc := (C4.box w (.int .i64 t) c1 c2 c3 26).c0
 rw [← hwa] at hc
 have HG := hide (show w.grownBy wa none by rw [hwa]; exact gb_alloc (gb_refl w none) _)
 have HN := hide (hasN_any t)
 have HWE := hide hwa
 clear hwa
 go_enter Tryz.func34, Tryz.ntmps34
 go_wp2_with (go_at_call 70; refine (HN.out _).mono ?_; rintro e w1 ⟨rfl, rfl⟩)
 go_ret
 exact ⟨rfl, by have := HG.out; rwa [HWE.out] at this⟩
theorem num_same (t : Int) : ((rAtom t || rVec t) && decide (rAbs t ≠ 3)) = hasN t := by
 by_cases h : -5 ≤ t ∧ t ≤ 5
 ·have : t = -5 ∨ t = -4 ∨ t = -3 ∨ t = -2 ∨ t = -1 ∨ t = 0 ∨ t = 1 ∨ t = 2 ∨ t = 3 ∨ t = 4 ∨ t = 5 := by omega
  rcases this with rfl | rfl | rfl | rfl | rfl | rfl | rfl | rfl | rfl | rfl | rfl <;> rfl
 ·have e : hasN t = false := by
   unfold hasN
   simp
   omega
  have e1 : rAtom t = false := by unfold rAtom; simp; omega
  have e2 : rVec t = false := by unfold rVec; simp; omega
  rw [e, e1, e2]
  rfl
set_option maxHeartbeats 4000000 in
theorem rNumeric_any (t : Int) (c1 c2 c3 : Value) (w : World) : Calls Tryz.prog 36 #[.agg #[.int .i64 t, c1, c2, c3]] w fun e w' => e = .returned (.bool (hasN t)) ∧ w.grownBy w' none := by
 obtain ⟨wa, hwa⟩ : ∃ wa, wa = w.alloc (.cells #[.int .i64 t, c1, c2, c3] 26) := ⟨_, rfl⟩
 have hc := C4.box w (.int .i64 t) c1 c2 c3 26
 rw [← hwa] at hc
 obtain ⟨b0, b1, b2, b3⟩ := hc
 have HG := hide (show w.grownBy wa none by rw [hwa]; exact gb_alloc (gb_refl w none) _)
 have HWE := hide hwa
 have HA := hide (fun w2 => rAtom_any t c1 c2 c3 w2)
 have HV := hide (fun w2 => rVec_any t c1 c2 c3 w2)
 have HB := hide (fun w2 => rAbs_any t w2)
 have HS := hide (num_same t)
 clear hwa
 generalize hasN t = r at *
 generalize rAtom t = p at *
 generalize rVec t = q at *
 generalize rAbs t = a at *
 cases p
 ·cases q
  ·obtain rfl : r = false := by rw [← HS.out]; rfl
   clear HS
   go_enter Tryz.func36, Tryz.ntmps36
   go_wp2_with fail
   rw [← HWE.out]
   go_wp2_with (first
    | (go_at_call 33; refine (HA.out _).mono ?_; rintro e w1 ⟨rfl, hg1⟩; have HG1 := hide hg1; have b0 := cell_gb b0 hg1; have b1 := cell_gb b1 hg1; have b2 := cell_gb b2 hg1; have b3 := cell_gb b3 hg1; clear hg1)
    | (go_at_call 69; refine (HV.out _).mono ?_; rintro e w2 ⟨rfl, hg2⟩; have HG2 := hide (gb_trans HG1.out hg2 (.inl rfl)); clear hg2))
   go_ret
   exact ⟨rfl, gb_trans HG.out HG2.out (.inl rfl)⟩
  ·by_cases ha : a = 3
   ·obtain rfl : r = false := by rw [← HS.out, ha]; rfl
    have e1 := int_bne_t ha
    clear HS ha
    go_enter Tryz.func36, Tryz.ntmps36
    go_wp2_with fail
    rw [← HWE.out]
    go_wp2_with (first
     | (go_at_call 33; refine (HA.out _).mono ?_; rintro e w1 ⟨rfl, hg1⟩; have HG1 := hide hg1; have b0 := cell_gb b0 hg1; have b1 := cell_gb b1 hg1; have b2 := cell_gb b2 hg1; have b3 := cell_gb b3 hg1; clear hg1)
     | (go_at_call 69; refine (HV.out _).mono ?_; rintro e w2 ⟨rfl, hg2⟩; have HG2 := hide (gb_trans HG1.out hg2 (.inl rfl)); have b0 := cell_gb b0 hg2; clear hg2)
     | (go_at_call 54; refine (HB.out _).mono ?_; rintro e w3 ⟨rfl, rfl⟩))
    go_ret
    exact ⟨rfl, gb_trans HG.out HG2.out (.inl rfl)⟩
   ·obtain rfl : r = true := by rw [← HS.out]; simp [ha]
    have e1 := int_bne_f ha
    clear HS ha
    go_enter Tryz.func36, Tryz.ntmps36
    go_wp2_with fail
    rw [← HWE.out]
    go_wp2_with (first
     | (go_at_call 33; refine (HA.out _).mono ?_; rintro e w1 ⟨rfl, hg1⟩; have HG1 := hide hg1; have b0 := cell_gb b0 hg1; have b1 := cell_gb b1 hg1; have b2 := cell_gb b2 hg1; have b3 := cell_gb b3 hg1; clear hg1)
     | (go_at_call 69; refine (HV.out _).mono ?_; rintro e w2 ⟨rfl, hg2⟩; have HG2 := hide (gb_trans HG1.out hg2 (.inl rfl)); have b0 := cell_gb b0 hg2; clear hg2)
     | (go_at_call 54; refine (HB.out _).mono ?_; rintro e w3 ⟨rfl, rfl⟩))
    go_ret
    exact ⟨rfl, gb_trans HG.out HG2.out (.inl rfl)⟩
 ·by_cases ha : a = 3
  ·obtain rfl : r = false := by rw [← HS.out, ha]; cases q <;> rfl
   have e1 := int_bne_t ha
   clear HS ha
   go_enter Tryz.func36, Tryz.ntmps36
   go_wp2_with fail
   rw [← HWE.out]
   go_wp2_with (first
    | (go_at_call 33; refine (HA.out _).mono ?_; rintro e w1 ⟨rfl, hg1⟩; have HG1 := hide hg1; have b0 := cell_gb b0 hg1; clear hg1)
    | (go_at_call 54; refine (HB.out _).mono ?_; rintro e w3 ⟨rfl, rfl⟩))
   go_ret
   exact ⟨rfl, gb_trans HG.out HG1.out (.inl rfl)⟩
  ·obtain rfl : r = true := by rw [← HS.out]; cases q <;> simp [ha]
   have e1 := int_bne_f ha
   clear HS ha
   go_enter Tryz.func36, Tryz.ntmps36
   go_wp2_with fail
   rw [← HWE.out]
   go_wp2_with (first
    | (go_at_call 33; refine (HA.out _).mono ?_; rintro e w1 ⟨rfl, hg1⟩; have HG1 := hide hg1; have b0 := cell_gb b0 hg1; clear hg1)
    | (go_at_call 54; refine (HB.out _).mono ?_; rintro e w3 ⟨rfl, rfl⟩))
   go_ret
   exact ⟨rfl, gb_trans HG.out HG1.out (.inl rfl)⟩
end Go.Proofs.YtbmgodmfpoappaaGreat
