/-
  The document's IsNull (out of the text Zd).
-/
import Derived.Test.YtbmgodmfpoappaaGreatQKe
import Derived.Test.YtbmgodmfpoappaaGreatQKn
namespace Go.Proofs.YtbmgodmfpoappaaGreat
open Go.RowKit
attribute [local go_sem ↓] Go.wp_at_zero Go.wp_at_succ
theorem emp_no {x : ByteArray} (h : x.toList.isEmpty = false) : (x.toList == []) = false := by
 cases hxl : x.toList
 ·rw [hxl] at h; cases h
 ·rfl
theorem emp_yes {x : ByteArray} (h : x.toList.isEmpty = true) : x.toList = [] := by
 cases hxl : x.toList
 ·rfl
 ·rw [hxl] at h; cases h
def FlatC (v : Vl) : Prop := v.count = if rAbs v.t = 3 then v.s.length else v.n.length
def nullR (v : Vl) (i : Int) : Bool :=
 if rAtom v.t = false ∧ rVec v.t = false then false else if i < 0 ∨ (v.count : Int) ≤ i then false else if rAbs v.t = 3 then (v.s.getD i.toNat ⟨#[]⟩).toList.isEmpty else if rAbs v.t = 1 then false else v.n.getD i.toNat 0 == -9223372036854775808
set_option maxHeartbeats 16000000 in
set_option maxRecDepth 100000 in
theorem rNull_any (v : Vl) (i : Int) (w : World) (B : Nat) (nA : Option Addr) (nc : Nat) (sA : Option Addr) (sc : Nat) (lA : Option Addr) (lc : Nat) (hfc : rAtom v.t = true ∨ rVec v.t = true → FlatC v) (ht : v.tot ≤ 1200000000) (hB : B ≤ w.heap.size) (h : VB w B v nA nc sA sc lA lc) :
  Calls Tryz.prog 47 #[.agg #[.int .i64 v.t, .slice nA v.n.length nc, .slice sA v.s.length sc, .slice lA v.l.length lc], .int .i64 i] w fun e w' => e = .returned (.bool (nullR v i)) ∧ w.grownBy w' none := by
 obtain ⟨wa, hwa⟩ : ∃ wa, wa = w.alloc (.cells #[.int .i64 v.t, .slice nA v.n.length nc, .slice sA v.s.length sc, .slice lA v.l.length lc] 26) := ⟨_, rfl⟩
 have hg : w.grownBy wa none := by rw [hwa]; exact gb_alloc (gb_refl w none) _
 have hc := C4.box w (.int .i64 v.t) (.slice nA v.n.length nc) (.slice sA v.s.length sc) (.slice lA v.l.length lc) 26
 rw [← hwa] at hc
 obtain ⟨b0, b1, b2, b3⟩ := hc
 have HV := hide (h.gb hg hB)
 have HBW := hide (Nat.le_trans hB hg.size)
 obtain ⟨l1, l2, l3, l4⟩ := Vl.lens v ht
 have HG := hide hg
 have HWE := hide hwa
 have HA := hide (fun w2 => rAtom_any v.t (.slice nA v.n.length nc) (.slice sA v.s.length sc) (.slice lA v.l.length lc) w2)
 have HVV := hide (fun w2 => rVec_any v.t (.slice nA v.n.length nc) (.slice sA v.s.length sc) (.slice lA v.l.length lc) w2)
 have HB := hide (fun w2 => rAbs_any v.t w2)
 have HCT := hide (fun w2 (k : wa.grownBy w2 none) => rCount_any v w2 B nA nc sA sc lA lc ht (Nat.le_trans (Nat.le_trans hB hg.size) k.size) ((h.gb hg hB).gb k (Nat.le_trans hB hg.size)))
 have hcl := Vl.count_le v.depth v (Nat.le_refl _)
 have hcb : (v.count : Int) ≤ 1200000000 := by omega
 clear h hg hwa hB ht hcl
 by_cases hf : rAtom v.t = false ∧ rVec v.t = false
 ·have HN := hide (show nullR v i = false by unfold nullR; rw [if_pos hf])
  rw [hf.1] at HA
  rw [hf.2] at HVV
  clear hf hfc HV
  generalize nullR v i = r at *
  go_enter Tryz.func47, Tryz.ntmps47
  go_wp2_with fail
  rw [← HWE.out]
  go_wp2_with (first
   | (go_at_call 33; refine (HA.out _).mono ?_; rintro e w1 ⟨rfl, hg1⟩; have HG1 := hide hg1; have b0 := cell_gb b0 hg1; have b1 := cell_gb b1 hg1; have b2 := cell_gb b2 hg1; have b3 := cell_gb b3 hg1;  clear hg1)
   | (go_at_call 69; refine (HVV.out _).mono ?_; rintro e w2 ⟨rfl, hg2⟩; have HG1 := hide (gb_trans HG1.out hg2 (.inl rfl)); have b0 := cell_gb b0 hg2; have b1 := cell_gb b1 hg2; have b2 := cell_gb b2 hg2; have b3 := cell_gb b3 hg2;  clear hg2)
   | (go_at_call 46; refine (HCT.out _ HG1.out).mono ?_; rintro e w3 ⟨rfl, hg3⟩; have HG1 := hide (gb_trans HG1.out hg3 (.inl rfl)); have b0 := cell_gb b0 hg3; have b1 := cell_gb b1 hg3; have b2 := cell_gb b2 hg3; have b3 := cell_gb b3 hg3;  clear hg3)
   | (go_at_call 54; refine (HB.out _).mono ?_; rintro e w4 ⟨rfl, rfl⟩))
  go_ret
  exact ⟨ret_b (by rw [HN.out]), gb_trans HG.out HG1.out (.inl rfl)⟩
 have hfl := hfc (by
  cases h1 : rAtom v.t
  ·right
   cases h2 : rVec v.t
   ·exact absurd ⟨h1, h2⟩ hf
   ·rfl
  ·exact .inl rfl)
 have hpq : rAtom v.t = true ∨ (rAtom v.t = false ∧ rVec v.t = true) := by
  cases h1 : rAtom v.t
  ·right
   cases h2 : rVec v.t
   ·exact absurd ⟨h1, h2⟩ hf
   ·exact ⟨rfl, rfl⟩
  ·exact .inl rfl
 unfold FlatC at hfl
 by_cases h0 : i < 0
 ·have HN := hide (show nullR v i = false by unfold nullR; rw [if_neg hf, if_pos (.inl h0)])
  clear hf hfc hfl HV
  generalize nullR v i = r at *
  rcases hpq with hp | ⟨hp, hq⟩
  ·rw [hp] at HA
   clear hp
   go_enter Tryz.func47, Tryz.ntmps47
   go_wp2_with fail
   rw [← HWE.out]
   go_wp2_with (first
    | (go_at_call 33; refine (HA.out _).mono ?_; rintro e w1 ⟨rfl, hg1⟩; have HG1 := hide hg1; have b0 := cell_gb b0 hg1; have b1 := cell_gb b1 hg1; have b2 := cell_gb b2 hg1; have b3 := cell_gb b3 hg1;  clear hg1)
    | (go_at_call 69; refine (HVV.out _).mono ?_; rintro e w2 ⟨rfl, hg2⟩; have HG1 := hide (gb_trans HG1.out hg2 (.inl rfl)); have b0 := cell_gb b0 hg2; have b1 := cell_gb b1 hg2; have b2 := cell_gb b2 hg2; have b3 := cell_gb b3 hg2;  clear hg2)
    | (go_at_call 46; refine (HCT.out _ HG1.out).mono ?_; rintro e w3 ⟨rfl, hg3⟩; have HG1 := hide (gb_trans HG1.out hg3 (.inl rfl)); have b0 := cell_gb b0 hg3; have b1 := cell_gb b1 hg3; have b2 := cell_gb b2 hg3; have b3 := cell_gb b3 hg3;  clear hg3)
    | (go_at_call 54; refine (HB.out _).mono ?_; rintro e w4 ⟨rfl, rfl⟩))
   go_ret
   exact ⟨ret_b (by rw [HN.out]), gb_trans HG.out HG1.out (.inl rfl)⟩
  ·rw [hp] at HA
   rw [hq] at HVV
   clear hp hq
   go_enter Tryz.func47, Tryz.ntmps47
   go_wp2_with fail
   rw [← HWE.out]
   go_wp2_with (first
    | (go_at_call 33; refine (HA.out _).mono ?_; rintro e w1 ⟨rfl, hg1⟩; have HG1 := hide hg1; have b0 := cell_gb b0 hg1; have b1 := cell_gb b1 hg1; have b2 := cell_gb b2 hg1; have b3 := cell_gb b3 hg1;  clear hg1)
    | (go_at_call 69; refine (HVV.out _).mono ?_; rintro e w2 ⟨rfl, hg2⟩; have HG1 := hide (gb_trans HG1.out hg2 (.inl rfl)); have b0 := cell_gb b0 hg2; have b1 := cell_gb b1 hg2; have b2 := cell_gb b2 hg2; have b3 := cell_gb b3 hg2;  clear hg2)
    | (go_at_call 46; refine (HCT.out _ HG1.out).mono ?_; rintro e w3 ⟨rfl, hg3⟩; have HG1 := hide (gb_trans HG1.out hg3 (.inl rfl)); have b0 := cell_gb b0 hg3; have b1 := cell_gb b1 hg3; have b2 := cell_gb b2 hg3; have b3 := cell_gb b3 hg3;  clear hg3)
    | (go_at_call 54; refine (HB.out _).mono ?_; rintro e w4 ⟨rfl, rfl⟩))
   go_ret
   exact ⟨ret_b (by rw [HN.out]), gb_trans HG.out HG1.out (.inl rfl)⟩
 by_cases h1 : (v.count : Int) ≤ i
 ·have HN := hide (show nullR v i = false by unfold nullR; rw [if_neg hf, if_pos (.inr h1)])
  have h2 : 0 ≤ i := by omega
  clear hf hfc hfl HV h0
  generalize nullR v i = r at *
  generalize v.count = n at *
  rcases hpq with hp | ⟨hp, hq⟩
  ·rw [hp] at HA
   clear hp
   go_enter Tryz.func47, Tryz.ntmps47
   go_wp2_with fail
   rw [← HWE.out]
   go_wp2_with (first
    | (go_at_call 33; refine (HA.out _).mono ?_; rintro e w1 ⟨rfl, hg1⟩; have HG1 := hide hg1; have b0 := cell_gb b0 hg1; have b1 := cell_gb b1 hg1; have b2 := cell_gb b2 hg1; have b3 := cell_gb b3 hg1;  clear hg1)
    | (go_at_call 69; refine (HVV.out _).mono ?_; rintro e w2 ⟨rfl, hg2⟩; have HG1 := hide (gb_trans HG1.out hg2 (.inl rfl)); have b0 := cell_gb b0 hg2; have b1 := cell_gb b1 hg2; have b2 := cell_gb b2 hg2; have b3 := cell_gb b3 hg2;  clear hg2)
    | (go_at_call 46; refine (HCT.out _ HG1.out).mono ?_; rintro e w3 ⟨rfl, hg3⟩; have HG1 := hide (gb_trans HG1.out hg3 (.inl rfl)); have b0 := cell_gb b0 hg3; have b1 := cell_gb b1 hg3; have b2 := cell_gb b2 hg3; have b3 := cell_gb b3 hg3;  clear hg3)
    | (go_at_call 54; refine (HB.out _).mono ?_; rintro e w4 ⟨rfl, rfl⟩))
   go_ret
   exact ⟨ret_b (by rw [HN.out]), gb_trans HG.out HG1.out (.inl rfl)⟩
  ·rw [hp] at HA
   rw [hq] at HVV
   clear hp hq
   go_enter Tryz.func47, Tryz.ntmps47
   go_wp2_with fail
   rw [← HWE.out]
   go_wp2_with (first
    | (go_at_call 33; refine (HA.out _).mono ?_; rintro e w1 ⟨rfl, hg1⟩; have HG1 := hide hg1; have b0 := cell_gb b0 hg1; have b1 := cell_gb b1 hg1; have b2 := cell_gb b2 hg1; have b3 := cell_gb b3 hg1;  clear hg1)
    | (go_at_call 69; refine (HVV.out _).mono ?_; rintro e w2 ⟨rfl, hg2⟩; have HG1 := hide (gb_trans HG1.out hg2 (.inl rfl)); have b0 := cell_gb b0 hg2; have b1 := cell_gb b1 hg2; have b2 := cell_gb b2 hg2; have b3 := cell_gb b3 hg2;  clear hg2)
    | (go_at_call 46; refine (HCT.out _ HG1.out).mono ?_; rintro e w3 ⟨rfl, hg3⟩; have HG1 := hide (gb_trans HG1.out hg3 (.inl rfl)); have b0 := cell_gb b0 hg3; have b1 := cell_gb b1 hg3; have b2 := cell_gb b2 hg3; have b3 := cell_gb b3 hg3;  clear hg3)
    | (go_at_call 54; refine (HB.out _).mono ?_; rintro e w4 ⟨rfl, rfl⟩))
   go_ret
   exact ⟨ret_b (by rw [HN.out]), gb_trans HG.out HG1.out (.inl rfl)⟩
 obtain ⟨k, rfl⟩ : ∃ k : Nat, i = (k : Int) := ⟨i.toNat, by omega⟩
 have hk1 : (k : Int) < (v.count : Int) := by omega
 have hk2 : ¬ (v.count : Int) ≤ (k : Int) := by omega
 have hk0 : (0 : Int) ≤ (k : Int) := by omega
 have hnn : ¬ ((k : Int) < 0 ∨ (v.count : Int) ≤ (k : Int)) := by omega
 by_cases h3 : rAbs v.t = 3
 ·rw [if_pos h3] at hfl
  have hk : k < v.s.length := by omega
  obtain ⟨a, ha, _, hc⟩ := HV.out.s.str hk
  subst ha
  have HN := hide (show nullR v (k : Int) = v.s[k].toList.isEmpty by unfold nullR; rw [if_neg hf, if_neg hnn, if_pos h3]; simp [List.getD_eq_getElem?_getD, hk])
  have e3 := int_beq_t h3
  have hks : (k : Int) < (v.s.length : Int) := by omega
  clear hf hfc hfl HV h0 h1 hnn h3
  generalize v.s[k] = x at *
  generalize nullR v (k : Int) = r at *
  generalize v.count = n at *
  generalize rAbs v.t = ab at *
  cases hx : x.toList.isEmpty
  ·have hx1 := emp_no hx
   rw [hx] at HN
   clear hx
   rcases hpq with hp | ⟨hp, hq⟩
   ·rw [hp] at HA
    clear hp
    go_enter Tryz.func47, Tryz.ntmps47
    go_wp2_with fail
    rw [← HWE.out]
    go_wp2_with (first
     | (go_at_call 33; refine (HA.out _).mono ?_; rintro e w1 ⟨rfl, hg1⟩; have HG1 := hide hg1; have b0 := cell_gb b0 hg1; have b1 := cell_gb b1 hg1; have b2 := cell_gb b2 hg1; have b3 := cell_gb b3 hg1; have hc := cell_gb hc hg1; clear hg1)
     | (go_at_call 69; refine (HVV.out _).mono ?_; rintro e w2 ⟨rfl, hg2⟩; have HG1 := hide (gb_trans HG1.out hg2 (.inl rfl)); have b0 := cell_gb b0 hg2; have b1 := cell_gb b1 hg2; have b2 := cell_gb b2 hg2; have b3 := cell_gb b3 hg2; have hc := cell_gb hc hg2; clear hg2)
     | (go_at_call 46; refine (HCT.out _ HG1.out).mono ?_; rintro e w3 ⟨rfl, hg3⟩; have HG1 := hide (gb_trans HG1.out hg3 (.inl rfl)); have b0 := cell_gb b0 hg3; have b1 := cell_gb b1 hg3; have b2 := cell_gb b2 hg3; have b3 := cell_gb b3 hg3; have hc := cell_gb hc hg3; clear hg3)
     | (go_at_call 54; refine (HB.out _).mono ?_; rintro e w4 ⟨rfl, rfl⟩))
    go_ret
    exact ⟨ret_b (by rw [HN.out]), gb_trans HG.out HG1.out (.inl rfl)⟩
   ·rw [hp] at HA
    rw [hq] at HVV
    clear hp hq
    go_enter Tryz.func47, Tryz.ntmps47
    go_wp2_with fail
    rw [← HWE.out]
    go_wp2_with (first
     | (go_at_call 33; refine (HA.out _).mono ?_; rintro e w1 ⟨rfl, hg1⟩; have HG1 := hide hg1; have b0 := cell_gb b0 hg1; have b1 := cell_gb b1 hg1; have b2 := cell_gb b2 hg1; have b3 := cell_gb b3 hg1; have hc := cell_gb hc hg1; clear hg1)
     | (go_at_call 69; refine (HVV.out _).mono ?_; rintro e w2 ⟨rfl, hg2⟩; have HG1 := hide (gb_trans HG1.out hg2 (.inl rfl)); have b0 := cell_gb b0 hg2; have b1 := cell_gb b1 hg2; have b2 := cell_gb b2 hg2; have b3 := cell_gb b3 hg2; have hc := cell_gb hc hg2; clear hg2)
     | (go_at_call 46; refine (HCT.out _ HG1.out).mono ?_; rintro e w3 ⟨rfl, hg3⟩; have HG1 := hide (gb_trans HG1.out hg3 (.inl rfl)); have b0 := cell_gb b0 hg3; have b1 := cell_gb b1 hg3; have b2 := cell_gb b2 hg3; have b3 := cell_gb b3 hg3; have hc := cell_gb hc hg3; clear hg3)
     | (go_at_call 54; refine (HB.out _).mono ?_; rintro e w4 ⟨rfl, rfl⟩))
    go_ret
    exact ⟨ret_b (by rw [HN.out]), gb_trans HG.out HG1.out (.inl rfl)⟩
  ·have hx1 := emp_yes hx
   rw [hx] at HN
   clear hx
   rcases hpq with hp | ⟨hp, hq⟩
   ·rw [hp] at HA
    clear hp
    go_enter Tryz.func47, Tryz.ntmps47
    go_wp2_with fail
    rw [← HWE.out]
    go_wp2_with (first
     | (go_at_call 33; refine (HA.out _).mono ?_; rintro e w1 ⟨rfl, hg1⟩; have HG1 := hide hg1; have b0 := cell_gb b0 hg1; have b1 := cell_gb b1 hg1; have b2 := cell_gb b2 hg1; have b3 := cell_gb b3 hg1; have hc := cell_gb hc hg1; clear hg1)
     | (go_at_call 69; refine (HVV.out _).mono ?_; rintro e w2 ⟨rfl, hg2⟩; have HG1 := hide (gb_trans HG1.out hg2 (.inl rfl)); have b0 := cell_gb b0 hg2; have b1 := cell_gb b1 hg2; have b2 := cell_gb b2 hg2; have b3 := cell_gb b3 hg2; have hc := cell_gb hc hg2; clear hg2)
     | (go_at_call 46; refine (HCT.out _ HG1.out).mono ?_; rintro e w3 ⟨rfl, hg3⟩; have HG1 := hide (gb_trans HG1.out hg3 (.inl rfl)); have b0 := cell_gb b0 hg3; have b1 := cell_gb b1 hg3; have b2 := cell_gb b2 hg3; have b3 := cell_gb b3 hg3; have hc := cell_gb hc hg3; clear hg3)
     | (go_at_call 54; refine (HB.out _).mono ?_; rintro e w4 ⟨rfl, rfl⟩))
    go_ret
    exact ⟨ret_b (by rw [HN.out]), gb_trans HG.out HG1.out (.inl rfl)⟩
   ·rw [hp] at HA
    rw [hq] at HVV
    clear hp hq
    go_enter Tryz.func47, Tryz.ntmps47
    go_wp2_with fail
    rw [← HWE.out]
    go_wp2_with (first
     | (go_at_call 33; refine (HA.out _).mono ?_; rintro e w1 ⟨rfl, hg1⟩; have HG1 := hide hg1; have b0 := cell_gb b0 hg1; have b1 := cell_gb b1 hg1; have b2 := cell_gb b2 hg1; have b3 := cell_gb b3 hg1; have hc := cell_gb hc hg1; clear hg1)
     | (go_at_call 69; refine (HVV.out _).mono ?_; rintro e w2 ⟨rfl, hg2⟩; have HG1 := hide (gb_trans HG1.out hg2 (.inl rfl)); have b0 := cell_gb b0 hg2; have b1 := cell_gb b1 hg2; have b2 := cell_gb b2 hg2; have b3 := cell_gb b3 hg2; have hc := cell_gb hc hg2; clear hg2)
     | (go_at_call 46; refine (HCT.out _ HG1.out).mono ?_; rintro e w3 ⟨rfl, hg3⟩; have HG1 := hide (gb_trans HG1.out hg3 (.inl rfl)); have b0 := cell_gb b0 hg3; have b1 := cell_gb b1 hg3; have b2 := cell_gb b2 hg3; have b3 := cell_gb b3 hg3; have hc := cell_gb hc hg3; clear hg3)
     | (go_at_call 54; refine (HB.out _).mono ?_; rintro e w4 ⟨rfl, rfl⟩))
    go_ret
    exact ⟨ret_b (by rw [HN.out]), gb_trans HG.out HG1.out (.inl rfl)⟩
 rw [if_neg h3] at hfl
 have e3 := int_beq_f h3
 by_cases h4 : rAbs v.t = 1
 ·have e4 := int_beq_t h4
  have HN := hide (show nullR v (k : Int) = false by unfold nullR; rw [if_neg hf, if_neg hnn, if_neg h3, if_pos h4])
  clear hf hfc hfl HV h0 h1 hnn h3 h4
  generalize nullR v (k : Int) = r at *
  generalize v.count = n at *
  generalize rAbs v.t = ab at *
  rcases hpq with hp | ⟨hp, hq⟩
  ·rw [hp] at HA
   clear hp
   go_enter Tryz.func47, Tryz.ntmps47
   go_wp2_with fail
   rw [← HWE.out]
   go_wp2_with (first
    | (go_at_call 33; refine (HA.out _).mono ?_; rintro e w1 ⟨rfl, hg1⟩; have HG1 := hide hg1; have b0 := cell_gb b0 hg1; have b1 := cell_gb b1 hg1; have b2 := cell_gb b2 hg1; have b3 := cell_gb b3 hg1;  clear hg1)
    | (go_at_call 69; refine (HVV.out _).mono ?_; rintro e w2 ⟨rfl, hg2⟩; have HG1 := hide (gb_trans HG1.out hg2 (.inl rfl)); have b0 := cell_gb b0 hg2; have b1 := cell_gb b1 hg2; have b2 := cell_gb b2 hg2; have b3 := cell_gb b3 hg2;  clear hg2)
    | (go_at_call 46; refine (HCT.out _ HG1.out).mono ?_; rintro e w3 ⟨rfl, hg3⟩; have HG1 := hide (gb_trans HG1.out hg3 (.inl rfl)); have b0 := cell_gb b0 hg3; have b1 := cell_gb b1 hg3; have b2 := cell_gb b2 hg3; have b3 := cell_gb b3 hg3;  clear hg3)
    | (go_at_call 54; refine (HB.out _).mono ?_; rintro e w4 ⟨rfl, rfl⟩))
   go_ret
   exact ⟨ret_b (by rw [HN.out]), gb_trans HG.out HG1.out (.inl rfl)⟩
  ·rw [hp] at HA
   rw [hq] at HVV
   clear hp hq
   go_enter Tryz.func47, Tryz.ntmps47
   go_wp2_with fail
   rw [← HWE.out]
   go_wp2_with (first
    | (go_at_call 33; refine (HA.out _).mono ?_; rintro e w1 ⟨rfl, hg1⟩; have HG1 := hide hg1; have b0 := cell_gb b0 hg1; have b1 := cell_gb b1 hg1; have b2 := cell_gb b2 hg1; have b3 := cell_gb b3 hg1;  clear hg1)
    | (go_at_call 69; refine (HVV.out _).mono ?_; rintro e w2 ⟨rfl, hg2⟩; have HG1 := hide (gb_trans HG1.out hg2 (.inl rfl)); have b0 := cell_gb b0 hg2; have b1 := cell_gb b1 hg2; have b2 := cell_gb b2 hg2; have b3 := cell_gb b3 hg2;  clear hg2)
    | (go_at_call 46; refine (HCT.out _ HG1.out).mono ?_; rintro e w3 ⟨rfl, hg3⟩; have HG1 := hide (gb_trans HG1.out hg3 (.inl rfl)); have b0 := cell_gb b0 hg3; have b1 := cell_gb b1 hg3; have b2 := cell_gb b2 hg3; have b3 := cell_gb b3 hg3;  clear hg3)
    | (go_at_call 54; refine (HB.out _).mono ?_; rintro e w4 ⟨rfl, rfl⟩))
   go_ret
   exact ⟨ret_b (by rw [HN.out]), gb_trans HG.out HG1.out (.inl rfl)⟩
 have e4 := int_beq_f h4
 have hk : k < v.n.length := by omega
 obtain ⟨a, ha, _, hc⟩ := HV.out.n.i64 hk
 subst ha
 have HN := hide (show nullR v (k : Int) = (v.n[k] == -9223372036854775808) by unfold nullR; rw [if_neg hf, if_neg hnn, if_neg h3, if_neg h4]; simp [List.getD_eq_getElem?_getD, hk])
 have hks : (k : Int) < (v.n.length : Int) := by omega
 clear hf hfc hfl HV h0 h1 hnn h3 h4
 generalize v.n[k] = x at *
 generalize nullR v (k : Int) = r at *
 generalize v.count = n at *
 generalize rAbs v.t = ab at *
 by_cases hx : x = -9223372036854775808
 ·have hx1 : (x == -9223372036854775808) = true := int_beq_t hx
  rw [hx1] at HN
  clear hx
  rcases hpq with hp | ⟨hp, hq⟩
  ·rw [hp] at HA
   clear hp
   go_enter Tryz.func47, Tryz.ntmps47
   go_wp2_with fail
   rw [← HWE.out]
   go_wp2_with (first
    | (go_at_call 33; refine (HA.out _).mono ?_; rintro e w1 ⟨rfl, hg1⟩; have HG1 := hide hg1; have b0 := cell_gb b0 hg1; have b1 := cell_gb b1 hg1; have b2 := cell_gb b2 hg1; have b3 := cell_gb b3 hg1; have hc := cell_gb hc hg1; clear hg1)
    | (go_at_call 69; refine (HVV.out _).mono ?_; rintro e w2 ⟨rfl, hg2⟩; have HG1 := hide (gb_trans HG1.out hg2 (.inl rfl)); have b0 := cell_gb b0 hg2; have b1 := cell_gb b1 hg2; have b2 := cell_gb b2 hg2; have b3 := cell_gb b3 hg2; have hc := cell_gb hc hg2; clear hg2)
    | (go_at_call 46; refine (HCT.out _ HG1.out).mono ?_; rintro e w3 ⟨rfl, hg3⟩; have HG1 := hide (gb_trans HG1.out hg3 (.inl rfl)); have b0 := cell_gb b0 hg3; have b1 := cell_gb b1 hg3; have b2 := cell_gb b2 hg3; have b3 := cell_gb b3 hg3; have hc := cell_gb hc hg3; clear hg3)
    | (go_at_call 54; refine (HB.out _).mono ?_; rintro e w4 ⟨rfl, rfl⟩))
   go_ret
   exact ⟨ret_b (by rw [HN.out]), gb_trans HG.out HG1.out (.inl rfl)⟩
  ·rw [hp] at HA
   rw [hq] at HVV
   clear hp hq
   go_enter Tryz.func47, Tryz.ntmps47
   go_wp2_with fail
   rw [← HWE.out]
   go_wp2_with (first
    | (go_at_call 33; refine (HA.out _).mono ?_; rintro e w1 ⟨rfl, hg1⟩; have HG1 := hide hg1; have b0 := cell_gb b0 hg1; have b1 := cell_gb b1 hg1; have b2 := cell_gb b2 hg1; have b3 := cell_gb b3 hg1; have hc := cell_gb hc hg1; clear hg1)
    | (go_at_call 69; refine (HVV.out _).mono ?_; rintro e w2 ⟨rfl, hg2⟩; have HG1 := hide (gb_trans HG1.out hg2 (.inl rfl)); have b0 := cell_gb b0 hg2; have b1 := cell_gb b1 hg2; have b2 := cell_gb b2 hg2; have b3 := cell_gb b3 hg2; have hc := cell_gb hc hg2; clear hg2)
    | (go_at_call 46; refine (HCT.out _ HG1.out).mono ?_; rintro e w3 ⟨rfl, hg3⟩; have HG1 := hide (gb_trans HG1.out hg3 (.inl rfl)); have b0 := cell_gb b0 hg3; have b1 := cell_gb b1 hg3; have b2 := cell_gb b2 hg3; have b3 := cell_gb b3 hg3; have hc := cell_gb hc hg3; clear hg3)
    | (go_at_call 54; refine (HB.out _).mono ?_; rintro e w4 ⟨rfl, rfl⟩))
   go_ret
   exact ⟨ret_b (by rw [HN.out]), gb_trans HG.out HG1.out (.inl rfl)⟩
 ·have hx1 : (x == -9223372036854775808) = false := int_beq_f hx
  rw [hx1] at HN
  clear hx
  rcases hpq with hp | ⟨hp, hq⟩
  ·rw [hp] at HA
   clear hp
   go_enter Tryz.func47, Tryz.ntmps47
   go_wp2_with fail
   rw [← HWE.out]
   go_wp2_with (first
    | (go_at_call 33; refine (HA.out _).mono ?_; rintro e w1 ⟨rfl, hg1⟩; have HG1 := hide hg1; have b0 := cell_gb b0 hg1; have b1 := cell_gb b1 hg1; have b2 := cell_gb b2 hg1; have b3 := cell_gb b3 hg1; have hc := cell_gb hc hg1; clear hg1)
    | (go_at_call 69; refine (HVV.out _).mono ?_; rintro e w2 ⟨rfl, hg2⟩; have HG1 := hide (gb_trans HG1.out hg2 (.inl rfl)); have b0 := cell_gb b0 hg2; have b1 := cell_gb b1 hg2; have b2 := cell_gb b2 hg2; have b3 := cell_gb b3 hg2; have hc := cell_gb hc hg2; clear hg2)
    | (go_at_call 46; refine (HCT.out _ HG1.out).mono ?_; rintro e w3 ⟨rfl, hg3⟩; have HG1 := hide (gb_trans HG1.out hg3 (.inl rfl)); have b0 := cell_gb b0 hg3; have b1 := cell_gb b1 hg3; have b2 := cell_gb b2 hg3; have b3 := cell_gb b3 hg3; have hc := cell_gb hc hg3; clear hg3)
    | (go_at_call 54; refine (HB.out _).mono ?_; rintro e w4 ⟨rfl, rfl⟩))
   go_ret
   exact ⟨ret_b (by rw [HN.out]), gb_trans HG.out HG1.out (.inl rfl)⟩
  ·rw [hp] at HA
   rw [hq] at HVV
   clear hp hq
   go_enter Tryz.func47, Tryz.ntmps47
   go_wp2_with fail
   rw [← HWE.out]
   go_wp2_with (first
    | (go_at_call 33; refine (HA.out _).mono ?_; rintro e w1 ⟨rfl, hg1⟩; have HG1 := hide hg1; have b0 := cell_gb b0 hg1; have b1 := cell_gb b1 hg1; have b2 := cell_gb b2 hg1; have b3 := cell_gb b3 hg1; have hc := cell_gb hc hg1; clear hg1)
    | (go_at_call 69; refine (HVV.out _).mono ?_; rintro e w2 ⟨rfl, hg2⟩; have HG1 := hide (gb_trans HG1.out hg2 (.inl rfl)); have b0 := cell_gb b0 hg2; have b1 := cell_gb b1 hg2; have b2 := cell_gb b2 hg2; have b3 := cell_gb b3 hg2; have hc := cell_gb hc hg2; clear hg2)
    | (go_at_call 46; refine (HCT.out _ HG1.out).mono ?_; rintro e w3 ⟨rfl, hg3⟩; have HG1 := hide (gb_trans HG1.out hg3 (.inl rfl)); have b0 := cell_gb b0 hg3; have b1 := cell_gb b1 hg3; have b2 := cell_gb b2 hg3; have b3 := cell_gb b3 hg3; have hc := cell_gb hc hg3; clear hg3)
    | (go_at_call 54; refine (HB.out _).mono ?_; rintro e w4 ⟨rfl, rfl⟩))
   go_ret
   exact ⟨ret_b (by rw [HN.out]), gb_trans HG.out HG1.out (.inl rfl)⟩
end Go.Proofs.YtbmgodmfpoappaaGreat
