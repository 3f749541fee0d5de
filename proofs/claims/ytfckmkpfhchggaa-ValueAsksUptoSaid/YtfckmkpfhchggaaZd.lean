/-
  IsNull, the program's and the document's.
-/
import Derived.Test.YtfckmkpfhchggaaZa
import Derived.Test.YtfckmkpfhchggaaXn
namespace Go.Proofs.Ytfckmkpfhchggaa
open Go.RowKit
attribute [local go_sem ↓] Go.wp_at_zero Go.wp_at_succ

/-- Is there a null at a place? -/
def nullV (v : Vl) (i : Int) : Bool :=
  if v.t = 2 ∨ v.t = 4 ∨ v.t = 5 ∨ v.t = -2 ∨ v.t = -4 ∨ v.t = -5 then (if 0 ≤ i ∧ i < (v.n.length : Int) then v.n.getD i.toNat 0 == -9223372036854775808 else false)
  else if v.t = 3 ∨ v.t = -3 then (if 0 ≤ i ∧ i < (v.s.length : Int) then (v.s.getD i.toNat ⟨#[]⟩).toList.isEmpty else false)
  else false
theorem emp_no {x : ByteArray} (h : x.toList.isEmpty = false) : (x.toList == []) = false := by
  cases hxl : x.toList
  · rw [hxl] at h; cases h
  · rfl
theorem emp_yes {x : ByteArray} (h : x.toList.isEmpty = true) : x.toList = [] := by
  cases hxl : x.toList
  · rfl
  · rw [hxl] at h; cases h

set_option maxHeartbeats 8000000 in
set_option maxRecDepth 100000 in
theorem vNull_num (v : Vl) (i : Int) (w : World) (B : Nat) (nA : Option Addr) (nc : Nat) (sA : Option Addr) (sc : Nat) (lA : Option Addr) (lc : Nat) (hty : v.t = 2 ∨ v.t = 4 ∨ v.t = 5 ∨ v.t = -2 ∨ v.t = -4 ∨ v.t = -5) (ht : v.tot ≤ 1100000) (hB : B ≤ w.heap.size) (h : VB w B v nA nc sA sc lA lc) :
    Calls Try.prog 21 #[.agg #[.int .i64 v.t, .slice nA v.n.length nc, .slice sA v.s.length sc, .slice lA v.l.length lc], .int .i64 i] w fun e w' => e = .returned (.bool (nullV v i)) ∧ w.grownBy w' none := by
  obtain ⟨wa, hwa⟩ : ∃ wa, wa = w.alloc (.cells #[.int .i64 v.t, .slice nA v.n.length nc, .slice sA v.s.length sc, .slice lA v.l.length lc] 26) := ⟨_, rfl⟩
  have hg : w.grownBy wa none := by rw [hwa]; exact gb_alloc (gb_refl w none) _
  have hc := C4.box w (.int .i64 v.t) (.slice nA v.n.length nc) (.slice sA v.s.length sc) (.slice lA v.l.length lc) 26
  rw [← hwa] at hc
  obtain ⟨b0, b1, b2, b3⟩ := hc
  have HV := hide (h.gb hg hB)
  have HBW := hide (Nat.le_trans hB hg.size)
  obtain ⟨l1, l2, l3, l4⟩ := Vl.lens v ht
  have HG := hide hg
  have HWE := hide hwa
  have hta := hty
  clear h hg hwa hB ht
  by_cases h0 : 0 ≤ i
  · by_cases h1 : i < (v.n.length : Int)
    · obtain ⟨k, rfl⟩ : ∃ k : Nat, i = (k : Int) := ⟨i.toNat, by omega⟩
      have hk : k < v.n.length := by omega
      obtain ⟨a, ha, _, hc⟩ := HV.out.n.i64 hk
      subst ha
      rw [HWE.out] at hc
      have HN := hide (show nullV v (k : Int) = (v.n[k] == -9223372036854775808) by unfold nullV; rw [if_pos hty, if_pos ⟨h0, h1⟩]; simp [List.getD_eq_getElem?_getD, hk])
      clear HV hty
      generalize v.n[k] = x at *
      generalize nullV v (k : Int) = r at *
      generalize v.t = t at *
      by_cases hx : x = -9223372036854775808
      · have hx1 : (x == -9223372036854775808) = true := int_beq_t hx
        rw [hx1] at HN
        clear hx
        rcases hta with rfl | rfl | rfl | rfl | rfl | rfl <;>
        · go_enter Try.func21, Try.ntmps21
          go_wp2_with fail
          rw [← HWE.out]
          go_wp2_with fail
          go_ret
          exact ⟨ret_b (by rw [HN.out]), HG.out⟩
      · have hx1 : (x == -9223372036854775808) = false := int_beq_f hx
        rw [hx1] at HN
        clear hx
        rcases hta with rfl | rfl | rfl | rfl | rfl | rfl <;>
        · go_enter Try.func21, Try.ntmps21
          go_wp2_with fail
          rw [← HWE.out]
          go_wp2_with fail
          go_ret
          exact ⟨ret_b (by rw [HN.out]), HG.out⟩
    · have HN := hide (show nullV v i = false by unfold nullV; rw [if_pos hty, if_neg (fun h => h1 h.2)])
      have h2 : (v.n.length : Int) ≤ i := by omega
      clear HV hty h1
      generalize nullV v i = r at *
      generalize v.t = t at *
      rcases hta with rfl | rfl | rfl | rfl | rfl | rfl <;>
      · go_enter Try.func21, Try.ntmps21
        go_wp2_with fail
        rw [← HWE.out]
        go_wp2_with fail
        go_ret
        exact ⟨ret_b (by rw [HN.out]), HG.out⟩
  · have HN := hide (show nullV v i = false by unfold nullV; rw [if_pos hty, if_neg (fun h => h0 h.1)])
    have h2 : i < 0 := by omega
    clear HV hty h0
    generalize nullV v i = r at *
    generalize v.t = t at *
    rcases hta with rfl | rfl | rfl | rfl | rfl | rfl <;>
    · go_enter Try.func21, Try.ntmps21
      go_wp2_with fail
      rw [← HWE.out]
      go_wp2_with fail
      go_ret
      exact ⟨ret_b (by rw [HN.out]), HG.out⟩

set_option maxHeartbeats 8000000 in
set_option maxRecDepth 100000 in
theorem vNull_sym (v : Vl) (i : Int) (w : World) (B : Nat) (nA : Option Addr) (nc : Nat) (sA : Option Addr) (sc : Nat) (lA : Option Addr) (lc : Nat) (hty : v.t = 3 ∨ v.t = -3) (ht : v.tot ≤ 1100000) (hB : B ≤ w.heap.size) (h : VB w B v nA nc sA sc lA lc) :
    Calls Try.prog 21 #[.agg #[.int .i64 v.t, .slice nA v.n.length nc, .slice sA v.s.length sc, .slice lA v.l.length lc], .int .i64 i] w fun e w' => e = .returned (.bool (nullV v i)) ∧ w.grownBy w' none := by
  obtain ⟨wa, hwa⟩ : ∃ wa, wa = w.alloc (.cells #[.int .i64 v.t, .slice nA v.n.length nc, .slice sA v.s.length sc, .slice lA v.l.length lc] 26) := ⟨_, rfl⟩
  have hg : w.grownBy wa none := by rw [hwa]; exact gb_alloc (gb_refl w none) _
  have hc := C4.box w (.int .i64 v.t) (.slice nA v.n.length nc) (.slice sA v.s.length sc) (.slice lA v.l.length lc) 26
  rw [← hwa] at hc
  obtain ⟨b0, b1, b2, b3⟩ := hc
  have HV := hide (h.gb hg hB)
  have HBW := hide (Nat.le_trans hB hg.size)
  obtain ⟨l1, l2, l3, l4⟩ := Vl.lens v ht
  have HG := hide hg
  have HWE := hide hwa
  have hta := hty
  have hno : ¬ (v.t = 2 ∨ v.t = 4 ∨ v.t = 5 ∨ v.t = -2 ∨ v.t = -4 ∨ v.t = -5) := by omega
  clear h hg hwa hB ht
  by_cases h0 : 0 ≤ i
  · by_cases h1 : i < (v.s.length : Int)
    · obtain ⟨k, rfl⟩ : ∃ k : Nat, i = (k : Int) := ⟨i.toNat, by omega⟩
      have hk : k < v.s.length := by omega
      obtain ⟨a, ha, _, hc⟩ := HV.out.s.str hk
      subst ha
      rw [HWE.out] at hc
      have HN := hide (show nullV v (k : Int) = v.s[k].toList.isEmpty by unfold nullV; rw [if_neg hno, if_pos hty, if_pos ⟨h0, h1⟩]; simp [List.getD_eq_getElem?_getD, hk])
      clear HV hty hno
      generalize v.s[k] = x at *
      generalize nullV v (k : Int) = r at *
      generalize v.t = t at *
      cases hx : x.toList.isEmpty
      · have hx1 := emp_no hx
        rw [hx] at HN
        clear hx
        rcases hta with rfl | rfl <;>
        · go_enter Try.func21, Try.ntmps21
          go_wp2_with fail
          rw [← HWE.out]
          go_wp2_with fail
          go_ret
          exact ⟨ret_b (by rw [HN.out]), HG.out⟩
      · have hx1 := emp_yes hx
        rw [hx] at HN
        clear hx
        rcases hta with rfl | rfl <;>
        · go_enter Try.func21, Try.ntmps21
          go_wp2_with fail
          rw [← HWE.out]
          go_wp2_with fail
          go_ret
          exact ⟨ret_b (by rw [HN.out]), HG.out⟩
    · have HN := hide (show nullV v i = false by unfold nullV; rw [if_neg hno, if_pos hty, if_neg (fun h => h1 h.2)])
      have h2 : (v.s.length : Int) ≤ i := by omega
      clear HV hty hno h1
      generalize nullV v i = r at *
      generalize v.t = t at *
      rcases hta with rfl | rfl <;>
      · go_enter Try.func21, Try.ntmps21
        go_wp2_with fail
        rw [← HWE.out]
        go_wp2_with fail
        go_ret
        exact ⟨ret_b (by rw [HN.out]), HG.out⟩
  · have HN := hide (show nullV v i = false by unfold nullV; rw [if_neg hno, if_pos hty, if_neg (fun h => h0 h.1)])
    have h2 : i < 0 := by omega
    clear HV hty hno h0
    generalize nullV v i = r at *
    generalize v.t = t at *
    rcases hta with rfl | rfl <;>
    · go_enter Try.func21, Try.ntmps21
      go_wp2_with fail
      rw [← HWE.out]
      go_wp2_with fail
      go_ret
      exact ⟨ret_b (by rw [HN.out]), HG.out⟩

set_option maxHeartbeats 8000000 in
set_option maxRecDepth 100000 in
theorem vNull_any (v : Vl) (i : Int) (w : World) (B : Nat) (nA : Option Addr) (nc : Nat) (sA : Option Addr) (sc : Nat) (lA : Option Addr) (lc : Nat) (ht : v.tot ≤ 1100000) (hB : B ≤ w.heap.size) (h : VB w B v nA nc sA sc lA lc) :
    Calls Try.prog 21 #[.agg #[.int .i64 v.t, .slice nA v.n.length nc, .slice sA v.s.length sc, .slice lA v.l.length lc], .int .i64 i] w fun e w' => e = .returned (.bool (nullV v i)) ∧ w.grownBy w' none := by
  by_cases hn : v.t = 2 ∨ v.t = 4 ∨ v.t = 5 ∨ v.t = -2 ∨ v.t = -4 ∨ v.t = -5
  · exact vNull_num v i w B nA nc sA sc lA lc hn ht hB h
  by_cases hs : v.t = 3 ∨ v.t = -3
  · exact vNull_sym v i w B nA nc sA sc lA lc hs ht hB h
  obtain ⟨wa, hwa⟩ : ∃ wa, wa = w.alloc (.cells #[.int .i64 v.t, .slice nA v.n.length nc, .slice sA v.s.length sc, .slice lA v.l.length lc] 26) := ⟨_, rfl⟩
  have hg : w.grownBy wa none := by rw [hwa]; exact gb_alloc (gb_refl w none) _
  have hc := C4.box w (.int .i64 v.t) (.slice nA v.n.length nc) (.slice sA v.s.length sc) (.slice lA v.l.length lc) 26
  rw [← hwa] at hc
  obtain ⟨b0, b1, b2, b3⟩ := hc
  have HV := hide (h.gb hg hB)
  have HBW := hide (Nat.le_trans hB hg.size)
  obtain ⟨l1, l2, l3, l4⟩ := Vl.lens v ht
  have HG := hide hg
  have HWE := hide hwa
  have HN := hide (show nullV v i = false by unfold nullV; rw [if_neg hn, if_neg hs])
  rw [HN.out]
  simp only [not_or] at hn hs
  have e1 := int_beq_f hn.1
  have e2 := int_beq_f hn.2.1
  have e3 := int_beq_f hn.2.2.1
  have e4 := int_beq_f hn.2.2.2.1
  have e5 := int_beq_f hn.2.2.2.2.1
  have e6 := int_beq_f hn.2.2.2.2.2
  have e7 := int_beq_f hs.1
  have e8 := int_beq_f hs.2
  clear h hg hwa hB ht hn hs HV
  go_enter Try.func21, Try.ntmps21
  go_wp2_with fail
  rw [← HWE.out]
  go_wp2_with fail
  go_ret
  exact ⟨rfl, HG.out⟩

/-- How many elements an atom or a vector has, by the document. -/
def FlatC (v : Vl) : Prop := v.count = if rAbs v.t = 3 then v.s.length else v.n.length
def nullR (v : Vl) (i : Int) : Bool :=
  if rAtom v.t = false ∧ rVec v.t = false then false else if i < 0 ∨ (v.count : Int) ≤ i then false else if rAbs v.t = 3 then (v.s.getD i.toNat ⟨#[]⟩).toList.isEmpty else if rAbs v.t = 1 then false else v.n.getD i.toNat 0 == -9223372036854775808
set_option maxHeartbeats 16000000 in
set_option maxRecDepth 100000 in
theorem rNull_any (v : Vl) (i : Int) (w : World) (B : Nat) (nA : Option Addr) (nc : Nat) (sA : Option Addr) (sc : Nat) (lA : Option Addr) (lc : Nat) (hfc : rAtom v.t = true ∨ rVec v.t = true → FlatC v) (ht : v.tot ≤ 1100000) (hB : B ≤ w.heap.size) (h : VB w B v nA nc sA sc lA lc) :
    Calls Try.prog 22 #[.agg #[.int .i64 v.t, .slice nA v.n.length nc, .slice sA v.s.length sc, .slice lA v.l.length lc], .int .i64 i] w fun e w' => e = .returned (.bool (nullR v i)) ∧ w.grownBy w' none := by
  obtain ⟨wa, hwa⟩ : ∃ wa, wa = w.alloc (.cells #[.int .i64 v.t, .slice nA v.n.length nc, .slice sA v.s.length sc, .slice lA v.l.length lc] 26) := ⟨_, rfl⟩
  have hg : w.grownBy wa none := by rw [hwa]; exact gb_alloc (gb_refl w none) _
  have hc := C4.box w (.int .i64 v.t) (.slice nA v.n.length nc) (.slice sA v.s.length sc) (.slice lA v.l.length lc) 26
  rw [← hwa] at hc
  obtain ⟨b0, b1, b2, b3⟩ := hc
  have HV := hide (h.gb hg hB)
  have HBW := hide (Nat.le_trans hB hg.size)
  obtain ⟨l1, l2, l3, l4⟩ := Vl.lens v ht
  have HG := hide hg
  have HWE := hide hwa
  have HA := hide (fun w2 => rAtom_any v.t (.slice nA v.n.length nc) (.slice sA v.s.length sc) (.slice lA v.l.length lc) w2)
  have HVV := hide (fun w2 => rVec_any v.t (.slice nA v.n.length nc) (.slice sA v.s.length sc) (.slice lA v.l.length lc) w2)
  have HB := hide (fun w2 => rAbs_any v.t w2)
  have HCT := hide (fun w2 (k : wa.grownBy w2 none) => rCount_any v w2 B nA nc sA sc lA lc ht (Nat.le_trans (Nat.le_trans hB hg.size) k.size) ((h.gb hg hB).gb k (Nat.le_trans hB hg.size)))
  have hcl := Vl.count_le v.depth v (Nat.le_refl _)
  have hcb : (v.count : Int) ≤ 1100000 := by omega
  clear h hg hwa hB ht hcl
  by_cases hf : rAtom v.t = false ∧ rVec v.t = false
  · have HN := hide (show nullR v i = false by unfold nullR; rw [if_pos hf])
    rw [hf.1] at HA
    rw [hf.2] at HVV
    clear hf hfc HV
    generalize nullR v i = r at *
    go_enter Try.func22, Try.ntmps22
    go_wp2_with fail
    rw [← HWE.out]
    go_wp2_with (first
      | (go_at_call 18; refine (HA.out _).mono ?_; rintro e w1 ⟨rfl, hg1⟩; have HG1 := hide hg1; have b0 := cell_gb b0 hg1; have b1 := cell_gb b1 hg1; have b2 := cell_gb b2 hg1; have b3 := cell_gb b3 hg1;  clear hg1)
      | (go_at_call 48; refine (HVV.out _).mono ?_; rintro e w2 ⟨rfl, hg2⟩; have HG1 := hide (gb_trans HG1.out hg2 (.inl rfl)); have b0 := cell_gb b0 hg2; have b1 := cell_gb b1 hg2; have b2 := cell_gb b2 hg2; have b3 := cell_gb b3 hg2;  clear hg2)
      | (go_at_call 16; refine (HCT.out _ HG1.out).mono ?_; rintro e w3 ⟨rfl, hg3⟩; have HG1 := hide (gb_trans HG1.out hg3 (.inl rfl)); have b0 := cell_gb b0 hg3; have b1 := cell_gb b1 hg3; have b2 := cell_gb b2 hg3; have b3 := cell_gb b3 hg3;  clear hg3)
      | (go_at_call 53; refine (HB.out _).mono ?_; rintro e w4 ⟨rfl, rfl⟩))
    go_ret
    exact ⟨ret_b (by rw [HN.out]), gb_trans HG.out HG1.out (.inl rfl)⟩
  have hfl := hfc (by
    cases h1 : rAtom v.t
    · right
      cases h2 : rVec v.t
      · exact absurd ⟨h1, h2⟩ hf
      · rfl
    · exact .inl rfl)
  have hpq : rAtom v.t = true ∨ (rAtom v.t = false ∧ rVec v.t = true) := by
    cases h1 : rAtom v.t
    · right
      cases h2 : rVec v.t
      · exact absurd ⟨h1, h2⟩ hf
      · exact ⟨rfl, rfl⟩
    · exact .inl rfl
  unfold FlatC at hfl
  by_cases h0 : i < 0
  · have HN := hide (show nullR v i = false by unfold nullR; rw [if_neg hf, if_pos (.inl h0)])
    clear hf hfc hfl HV
    generalize nullR v i = r at *
    rcases hpq with hp | ⟨hp, hq⟩
    · rw [hp] at HA
      clear hp
      go_enter Try.func22, Try.ntmps22
      go_wp2_with fail
      rw [← HWE.out]
      go_wp2_with (first
        | (go_at_call 18; refine (HA.out _).mono ?_; rintro e w1 ⟨rfl, hg1⟩; have HG1 := hide hg1; have b0 := cell_gb b0 hg1; have b1 := cell_gb b1 hg1; have b2 := cell_gb b2 hg1; have b3 := cell_gb b3 hg1;  clear hg1)
        | (go_at_call 48; refine (HVV.out _).mono ?_; rintro e w2 ⟨rfl, hg2⟩; have HG1 := hide (gb_trans HG1.out hg2 (.inl rfl)); have b0 := cell_gb b0 hg2; have b1 := cell_gb b1 hg2; have b2 := cell_gb b2 hg2; have b3 := cell_gb b3 hg2;  clear hg2)
        | (go_at_call 16; refine (HCT.out _ HG1.out).mono ?_; rintro e w3 ⟨rfl, hg3⟩; have HG1 := hide (gb_trans HG1.out hg3 (.inl rfl)); have b0 := cell_gb b0 hg3; have b1 := cell_gb b1 hg3; have b2 := cell_gb b2 hg3; have b3 := cell_gb b3 hg3;  clear hg3)
        | (go_at_call 53; refine (HB.out _).mono ?_; rintro e w4 ⟨rfl, rfl⟩))
      go_ret
      exact ⟨ret_b (by rw [HN.out]), gb_trans HG.out HG1.out (.inl rfl)⟩
    · rw [hp] at HA
      rw [hq] at HVV
      clear hp hq
      go_enter Try.func22, Try.ntmps22
      go_wp2_with fail
      rw [← HWE.out]
      go_wp2_with (first
        | (go_at_call 18; refine (HA.out _).mono ?_; rintro e w1 ⟨rfl, hg1⟩; have HG1 := hide hg1; have b0 := cell_gb b0 hg1; have b1 := cell_gb b1 hg1; have b2 := cell_gb b2 hg1; have b3 := cell_gb b3 hg1;  clear hg1)
        | (go_at_call 48; refine (HVV.out _).mono ?_; rintro e w2 ⟨rfl, hg2⟩; have HG1 := hide (gb_trans HG1.out hg2 (.inl rfl)); have b0 := cell_gb b0 hg2; have b1 := cell_gb b1 hg2; have b2 := cell_gb b2 hg2; have b3 := cell_gb b3 hg2;  clear hg2)
        | (go_at_call 16; refine (HCT.out _ HG1.out).mono ?_; rintro e w3 ⟨rfl, hg3⟩; have HG1 := hide (gb_trans HG1.out hg3 (.inl rfl)); have b0 := cell_gb b0 hg3; have b1 := cell_gb b1 hg3; have b2 := cell_gb b2 hg3; have b3 := cell_gb b3 hg3;  clear hg3)
        | (go_at_call 53; refine (HB.out _).mono ?_; rintro e w4 ⟨rfl, rfl⟩))
      go_ret
      exact ⟨ret_b (by rw [HN.out]), gb_trans HG.out HG1.out (.inl rfl)⟩
  by_cases h1 : (v.count : Int) ≤ i
  · have HN := hide (show nullR v i = false by unfold nullR; rw [if_neg hf, if_pos (.inr h1)])
    have h2 : 0 ≤ i := by omega
    clear hf hfc hfl HV h0
    generalize nullR v i = r at *
    generalize v.count = n at *
    rcases hpq with hp | ⟨hp, hq⟩
    · rw [hp] at HA
      clear hp
      go_enter Try.func22, Try.ntmps22
      go_wp2_with fail
      rw [← HWE.out]
      go_wp2_with (first
        | (go_at_call 18; refine (HA.out _).mono ?_; rintro e w1 ⟨rfl, hg1⟩; have HG1 := hide hg1; have b0 := cell_gb b0 hg1; have b1 := cell_gb b1 hg1; have b2 := cell_gb b2 hg1; have b3 := cell_gb b3 hg1;  clear hg1)
        | (go_at_call 48; refine (HVV.out _).mono ?_; rintro e w2 ⟨rfl, hg2⟩; have HG1 := hide (gb_trans HG1.out hg2 (.inl rfl)); have b0 := cell_gb b0 hg2; have b1 := cell_gb b1 hg2; have b2 := cell_gb b2 hg2; have b3 := cell_gb b3 hg2;  clear hg2)
        | (go_at_call 16; refine (HCT.out _ HG1.out).mono ?_; rintro e w3 ⟨rfl, hg3⟩; have HG1 := hide (gb_trans HG1.out hg3 (.inl rfl)); have b0 := cell_gb b0 hg3; have b1 := cell_gb b1 hg3; have b2 := cell_gb b2 hg3; have b3 := cell_gb b3 hg3;  clear hg3)
        | (go_at_call 53; refine (HB.out _).mono ?_; rintro e w4 ⟨rfl, rfl⟩))
      go_ret
      exact ⟨ret_b (by rw [HN.out]), gb_trans HG.out HG1.out (.inl rfl)⟩
    · rw [hp] at HA
      rw [hq] at HVV
      clear hp hq
      go_enter Try.func22, Try.ntmps22
      go_wp2_with fail
      rw [← HWE.out]
      go_wp2_with (first
        | (go_at_call 18; refine (HA.out _).mono ?_; rintro e w1 ⟨rfl, hg1⟩; have HG1 := hide hg1; have b0 := cell_gb b0 hg1; have b1 := cell_gb b1 hg1; have b2 := cell_gb b2 hg1; have b3 := cell_gb b3 hg1;  clear hg1)
        | (go_at_call 48; refine (HVV.out _).mono ?_; rintro e w2 ⟨rfl, hg2⟩; have HG1 := hide (gb_trans HG1.out hg2 (.inl rfl)); have b0 := cell_gb b0 hg2; have b1 := cell_gb b1 hg2; have b2 := cell_gb b2 hg2; have b3 := cell_gb b3 hg2;  clear hg2)
        | (go_at_call 16; refine (HCT.out _ HG1.out).mono ?_; rintro e w3 ⟨rfl, hg3⟩; have HG1 := hide (gb_trans HG1.out hg3 (.inl rfl)); have b0 := cell_gb b0 hg3; have b1 := cell_gb b1 hg3; have b2 := cell_gb b2 hg3; have b3 := cell_gb b3 hg3;  clear hg3)
        | (go_at_call 53; refine (HB.out _).mono ?_; rintro e w4 ⟨rfl, rfl⟩))
      go_ret
      exact ⟨ret_b (by rw [HN.out]), gb_trans HG.out HG1.out (.inl rfl)⟩
  obtain ⟨k, rfl⟩ : ∃ k : Nat, i = (k : Int) := ⟨i.toNat, by omega⟩
  have hk1 : (k : Int) < (v.count : Int) := by omega
  have hk2 : ¬ (v.count : Int) ≤ (k : Int) := by omega
  have hk0 : (0 : Int) ≤ (k : Int) := by omega
  have hnn : ¬ ((k : Int) < 0 ∨ (v.count : Int) ≤ (k : Int)) := by omega
  by_cases h3 : rAbs v.t = 3
  · rw [if_pos h3] at hfl
    have hk : k < v.s.length := by omega
    obtain ⟨a, ha, _, hc⟩ := HV.out.s.str hk
    subst ha
    have HN := hide (show nullR v (k : Int) = v.s[k].toList.isEmpty by unfold nullR; rw [if_neg hf, if_neg hnn, if_pos h3]; simp [List.getD_eq_getElem?_getD, hk])
    have e3 := int_beq_t h3
    have hks : (k : Int) < (v.s.length : Int) := by omega
    clear hf hfc hfl HV h0 h1 hnn h3
    generalize v.s[k] = x at *
    generalize nullR v (k : Int) = r at *
    generalize v.count = n at *
    generalize rAbs v.t = ab at *
    cases hx : x.toList.isEmpty
    · have hx1 := emp_no hx
      rw [hx] at HN
      clear hx
      rcases hpq with hp | ⟨hp, hq⟩
      · rw [hp] at HA
        clear hp
        go_enter Try.func22, Try.ntmps22
        go_wp2_with fail
        rw [← HWE.out]
        go_wp2_with (first
          | (go_at_call 18; refine (HA.out _).mono ?_; rintro e w1 ⟨rfl, hg1⟩; have HG1 := hide hg1; have b0 := cell_gb b0 hg1; have b1 := cell_gb b1 hg1; have b2 := cell_gb b2 hg1; have b3 := cell_gb b3 hg1; have hc := cell_gb hc hg1; clear hg1)
          | (go_at_call 48; refine (HVV.out _).mono ?_; rintro e w2 ⟨rfl, hg2⟩; have HG1 := hide (gb_trans HG1.out hg2 (.inl rfl)); have b0 := cell_gb b0 hg2; have b1 := cell_gb b1 hg2; have b2 := cell_gb b2 hg2; have b3 := cell_gb b3 hg2; have hc := cell_gb hc hg2; clear hg2)
          | (go_at_call 16; refine (HCT.out _ HG1.out).mono ?_; rintro e w3 ⟨rfl, hg3⟩; have HG1 := hide (gb_trans HG1.out hg3 (.inl rfl)); have b0 := cell_gb b0 hg3; have b1 := cell_gb b1 hg3; have b2 := cell_gb b2 hg3; have b3 := cell_gb b3 hg3; have hc := cell_gb hc hg3; clear hg3)
          | (go_at_call 53; refine (HB.out _).mono ?_; rintro e w4 ⟨rfl, rfl⟩))
        go_ret
        exact ⟨ret_b (by rw [HN.out]), gb_trans HG.out HG1.out (.inl rfl)⟩
      · rw [hp] at HA
        rw [hq] at HVV
        clear hp hq
        go_enter Try.func22, Try.ntmps22
        go_wp2_with fail
        rw [← HWE.out]
        go_wp2_with (first
          | (go_at_call 18; refine (HA.out _).mono ?_; rintro e w1 ⟨rfl, hg1⟩; have HG1 := hide hg1; have b0 := cell_gb b0 hg1; have b1 := cell_gb b1 hg1; have b2 := cell_gb b2 hg1; have b3 := cell_gb b3 hg1; have hc := cell_gb hc hg1; clear hg1)
          | (go_at_call 48; refine (HVV.out _).mono ?_; rintro e w2 ⟨rfl, hg2⟩; have HG1 := hide (gb_trans HG1.out hg2 (.inl rfl)); have b0 := cell_gb b0 hg2; have b1 := cell_gb b1 hg2; have b2 := cell_gb b2 hg2; have b3 := cell_gb b3 hg2; have hc := cell_gb hc hg2; clear hg2)
          | (go_at_call 16; refine (HCT.out _ HG1.out).mono ?_; rintro e w3 ⟨rfl, hg3⟩; have HG1 := hide (gb_trans HG1.out hg3 (.inl rfl)); have b0 := cell_gb b0 hg3; have b1 := cell_gb b1 hg3; have b2 := cell_gb b2 hg3; have b3 := cell_gb b3 hg3; have hc := cell_gb hc hg3; clear hg3)
          | (go_at_call 53; refine (HB.out _).mono ?_; rintro e w4 ⟨rfl, rfl⟩))
        go_ret
        exact ⟨ret_b (by rw [HN.out]), gb_trans HG.out HG1.out (.inl rfl)⟩
    · have hx1 := emp_yes hx
      rw [hx] at HN
      clear hx
      rcases hpq with hp | ⟨hp, hq⟩
      · rw [hp] at HA
        clear hp
        go_enter Try.func22, Try.ntmps22
        go_wp2_with fail
        rw [← HWE.out]
        go_wp2_with (first
          | (go_at_call 18; refine (HA.out _).mono ?_; rintro e w1 ⟨rfl, hg1⟩; have HG1 := hide hg1; have b0 := cell_gb b0 hg1; have b1 := cell_gb b1 hg1; have b2 := cell_gb b2 hg1; have b3 := cell_gb b3 hg1; have hc := cell_gb hc hg1; clear hg1)
          | (go_at_call 48; refine (HVV.out _).mono ?_; rintro e w2 ⟨rfl, hg2⟩; have HG1 := hide (gb_trans HG1.out hg2 (.inl rfl)); have b0 := cell_gb b0 hg2; have b1 := cell_gb b1 hg2; have b2 := cell_gb b2 hg2; have b3 := cell_gb b3 hg2; have hc := cell_gb hc hg2; clear hg2)
          | (go_at_call 16; refine (HCT.out _ HG1.out).mono ?_; rintro e w3 ⟨rfl, hg3⟩; have HG1 := hide (gb_trans HG1.out hg3 (.inl rfl)); have b0 := cell_gb b0 hg3; have b1 := cell_gb b1 hg3; have b2 := cell_gb b2 hg3; have b3 := cell_gb b3 hg3; have hc := cell_gb hc hg3; clear hg3)
          | (go_at_call 53; refine (HB.out _).mono ?_; rintro e w4 ⟨rfl, rfl⟩))
        go_ret
        exact ⟨ret_b (by rw [HN.out]), gb_trans HG.out HG1.out (.inl rfl)⟩
      · rw [hp] at HA
        rw [hq] at HVV
        clear hp hq
        go_enter Try.func22, Try.ntmps22
        go_wp2_with fail
        rw [← HWE.out]
        go_wp2_with (first
          | (go_at_call 18; refine (HA.out _).mono ?_; rintro e w1 ⟨rfl, hg1⟩; have HG1 := hide hg1; have b0 := cell_gb b0 hg1; have b1 := cell_gb b1 hg1; have b2 := cell_gb b2 hg1; have b3 := cell_gb b3 hg1; have hc := cell_gb hc hg1; clear hg1)
          | (go_at_call 48; refine (HVV.out _).mono ?_; rintro e w2 ⟨rfl, hg2⟩; have HG1 := hide (gb_trans HG1.out hg2 (.inl rfl)); have b0 := cell_gb b0 hg2; have b1 := cell_gb b1 hg2; have b2 := cell_gb b2 hg2; have b3 := cell_gb b3 hg2; have hc := cell_gb hc hg2; clear hg2)
          | (go_at_call 16; refine (HCT.out _ HG1.out).mono ?_; rintro e w3 ⟨rfl, hg3⟩; have HG1 := hide (gb_trans HG1.out hg3 (.inl rfl)); have b0 := cell_gb b0 hg3; have b1 := cell_gb b1 hg3; have b2 := cell_gb b2 hg3; have b3 := cell_gb b3 hg3; have hc := cell_gb hc hg3; clear hg3)
          | (go_at_call 53; refine (HB.out _).mono ?_; rintro e w4 ⟨rfl, rfl⟩))
        go_ret
        exact ⟨ret_b (by rw [HN.out]), gb_trans HG.out HG1.out (.inl rfl)⟩
  rw [if_neg h3] at hfl
  have e3 := int_beq_f h3
  by_cases h4 : rAbs v.t = 1
  · have e4 := int_beq_t h4
    have HN := hide (show nullR v (k : Int) = false by unfold nullR; rw [if_neg hf, if_neg hnn, if_neg h3, if_pos h4])
    clear hf hfc hfl HV h0 h1 hnn h3 h4
    generalize nullR v (k : Int) = r at *
    generalize v.count = n at *
    generalize rAbs v.t = ab at *
    rcases hpq with hp | ⟨hp, hq⟩
    · rw [hp] at HA
      clear hp
      go_enter Try.func22, Try.ntmps22
      go_wp2_with fail
      rw [← HWE.out]
      go_wp2_with (first
        | (go_at_call 18; refine (HA.out _).mono ?_; rintro e w1 ⟨rfl, hg1⟩; have HG1 := hide hg1; have b0 := cell_gb b0 hg1; have b1 := cell_gb b1 hg1; have b2 := cell_gb b2 hg1; have b3 := cell_gb b3 hg1;  clear hg1)
        | (go_at_call 48; refine (HVV.out _).mono ?_; rintro e w2 ⟨rfl, hg2⟩; have HG1 := hide (gb_trans HG1.out hg2 (.inl rfl)); have b0 := cell_gb b0 hg2; have b1 := cell_gb b1 hg2; have b2 := cell_gb b2 hg2; have b3 := cell_gb b3 hg2;  clear hg2)
        | (go_at_call 16; refine (HCT.out _ HG1.out).mono ?_; rintro e w3 ⟨rfl, hg3⟩; have HG1 := hide (gb_trans HG1.out hg3 (.inl rfl)); have b0 := cell_gb b0 hg3; have b1 := cell_gb b1 hg3; have b2 := cell_gb b2 hg3; have b3 := cell_gb b3 hg3;  clear hg3)
        | (go_at_call 53; refine (HB.out _).mono ?_; rintro e w4 ⟨rfl, rfl⟩))
      go_ret
      exact ⟨ret_b (by rw [HN.out]), gb_trans HG.out HG1.out (.inl rfl)⟩
    · rw [hp] at HA
      rw [hq] at HVV
      clear hp hq
      go_enter Try.func22, Try.ntmps22
      go_wp2_with fail
      rw [← HWE.out]
      go_wp2_with (first
        | (go_at_call 18; refine (HA.out _).mono ?_; rintro e w1 ⟨rfl, hg1⟩; have HG1 := hide hg1; have b0 := cell_gb b0 hg1; have b1 := cell_gb b1 hg1; have b2 := cell_gb b2 hg1; have b3 := cell_gb b3 hg1;  clear hg1)
        | (go_at_call 48; refine (HVV.out _).mono ?_; rintro e w2 ⟨rfl, hg2⟩; have HG1 := hide (gb_trans HG1.out hg2 (.inl rfl)); have b0 := cell_gb b0 hg2; have b1 := cell_gb b1 hg2; have b2 := cell_gb b2 hg2; have b3 := cell_gb b3 hg2;  clear hg2)
        | (go_at_call 16; refine (HCT.out _ HG1.out).mono ?_; rintro e w3 ⟨rfl, hg3⟩; have HG1 := hide (gb_trans HG1.out hg3 (.inl rfl)); have b0 := cell_gb b0 hg3; have b1 := cell_gb b1 hg3; have b2 := cell_gb b2 hg3; have b3 := cell_gb b3 hg3;  clear hg3)
        | (go_at_call 53; refine (HB.out _).mono ?_; rintro e w4 ⟨rfl, rfl⟩))
      go_ret
      exact ⟨ret_b (by rw [HN.out]), gb_trans HG.out HG1.out (.inl rfl)⟩
  have e4 := int_beq_f h4
  have hk : k < v.n.length := by omega
  obtain ⟨a, ha, _, hc⟩ := HV.out.n.i64 hk
  subst ha
  have HN := hide (show nullR v (k : Int) = (v.n[k] == -9223372036854775808) by unfold nullR; rw [if_neg hf, if_neg hnn, if_neg h3, if_neg h4]; simp [List.getD_eq_getElem?_getD, hk])
  have hks : (k : Int) < (v.n.length : Int) := by omega
  clear hf hfc hfl HV h0 h1 hnn h3 h4
  generalize v.n[k] = x at *
  generalize nullR v (k : Int) = r at *
  generalize v.count = n at *
  generalize rAbs v.t = ab at *
  by_cases hx : x = -9223372036854775808
  · have hx1 : (x == -9223372036854775808) = true := int_beq_t hx
    rw [hx1] at HN
    clear hx
    rcases hpq with hp | ⟨hp, hq⟩
    · rw [hp] at HA
      clear hp
      go_enter Try.func22, Try.ntmps22
      go_wp2_with fail
      rw [← HWE.out]
      go_wp2_with (first
        | (go_at_call 18; refine (HA.out _).mono ?_; rintro e w1 ⟨rfl, hg1⟩; have HG1 := hide hg1; have b0 := cell_gb b0 hg1; have b1 := cell_gb b1 hg1; have b2 := cell_gb b2 hg1; have b3 := cell_gb b3 hg1; have hc := cell_gb hc hg1; clear hg1)
        | (go_at_call 48; refine (HVV.out _).mono ?_; rintro e w2 ⟨rfl, hg2⟩; have HG1 := hide (gb_trans HG1.out hg2 (.inl rfl)); have b0 := cell_gb b0 hg2; have b1 := cell_gb b1 hg2; have b2 := cell_gb b2 hg2; have b3 := cell_gb b3 hg2; have hc := cell_gb hc hg2; clear hg2)
        | (go_at_call 16; refine (HCT.out _ HG1.out).mono ?_; rintro e w3 ⟨rfl, hg3⟩; have HG1 := hide (gb_trans HG1.out hg3 (.inl rfl)); have b0 := cell_gb b0 hg3; have b1 := cell_gb b1 hg3; have b2 := cell_gb b2 hg3; have b3 := cell_gb b3 hg3; have hc := cell_gb hc hg3; clear hg3)
        | (go_at_call 53; refine (HB.out _).mono ?_; rintro e w4 ⟨rfl, rfl⟩))
      go_ret
      exact ⟨ret_b (by rw [HN.out]), gb_trans HG.out HG1.out (.inl rfl)⟩
    · rw [hp] at HA
      rw [hq] at HVV
      clear hp hq
      go_enter Try.func22, Try.ntmps22
      go_wp2_with fail
      rw [← HWE.out]
      go_wp2_with (first
        | (go_at_call 18; refine (HA.out _).mono ?_; rintro e w1 ⟨rfl, hg1⟩; have HG1 := hide hg1; have b0 := cell_gb b0 hg1; have b1 := cell_gb b1 hg1; have b2 := cell_gb b2 hg1; have b3 := cell_gb b3 hg1; have hc := cell_gb hc hg1; clear hg1)
        | (go_at_call 48; refine (HVV.out _).mono ?_; rintro e w2 ⟨rfl, hg2⟩; have HG1 := hide (gb_trans HG1.out hg2 (.inl rfl)); have b0 := cell_gb b0 hg2; have b1 := cell_gb b1 hg2; have b2 := cell_gb b2 hg2; have b3 := cell_gb b3 hg2; have hc := cell_gb hc hg2; clear hg2)
        | (go_at_call 16; refine (HCT.out _ HG1.out).mono ?_; rintro e w3 ⟨rfl, hg3⟩; have HG1 := hide (gb_trans HG1.out hg3 (.inl rfl)); have b0 := cell_gb b0 hg3; have b1 := cell_gb b1 hg3; have b2 := cell_gb b2 hg3; have b3 := cell_gb b3 hg3; have hc := cell_gb hc hg3; clear hg3)
        | (go_at_call 53; refine (HB.out _).mono ?_; rintro e w4 ⟨rfl, rfl⟩))
      go_ret
      exact ⟨ret_b (by rw [HN.out]), gb_trans HG.out HG1.out (.inl rfl)⟩
  · have hx1 : (x == -9223372036854775808) = false := int_beq_f hx
    rw [hx1] at HN
    clear hx
    rcases hpq with hp | ⟨hp, hq⟩
    · rw [hp] at HA
      clear hp
      go_enter Try.func22, Try.ntmps22
      go_wp2_with fail
      rw [← HWE.out]
      go_wp2_with (first
        | (go_at_call 18; refine (HA.out _).mono ?_; rintro e w1 ⟨rfl, hg1⟩; have HG1 := hide hg1; have b0 := cell_gb b0 hg1; have b1 := cell_gb b1 hg1; have b2 := cell_gb b2 hg1; have b3 := cell_gb b3 hg1; have hc := cell_gb hc hg1; clear hg1)
        | (go_at_call 48; refine (HVV.out _).mono ?_; rintro e w2 ⟨rfl, hg2⟩; have HG1 := hide (gb_trans HG1.out hg2 (.inl rfl)); have b0 := cell_gb b0 hg2; have b1 := cell_gb b1 hg2; have b2 := cell_gb b2 hg2; have b3 := cell_gb b3 hg2; have hc := cell_gb hc hg2; clear hg2)
        | (go_at_call 16; refine (HCT.out _ HG1.out).mono ?_; rintro e w3 ⟨rfl, hg3⟩; have HG1 := hide (gb_trans HG1.out hg3 (.inl rfl)); have b0 := cell_gb b0 hg3; have b1 := cell_gb b1 hg3; have b2 := cell_gb b2 hg3; have b3 := cell_gb b3 hg3; have hc := cell_gb hc hg3; clear hg3)
        | (go_at_call 53; refine (HB.out _).mono ?_; rintro e w4 ⟨rfl, rfl⟩))
      go_ret
      exact ⟨ret_b (by rw [HN.out]), gb_trans HG.out HG1.out (.inl rfl)⟩
    · rw [hp] at HA
      rw [hq] at HVV
      clear hp hq
      go_enter Try.func22, Try.ntmps22
      go_wp2_with fail
      rw [← HWE.out]
      go_wp2_with (first
        | (go_at_call 18; refine (HA.out _).mono ?_; rintro e w1 ⟨rfl, hg1⟩; have HG1 := hide hg1; have b0 := cell_gb b0 hg1; have b1 := cell_gb b1 hg1; have b2 := cell_gb b2 hg1; have b3 := cell_gb b3 hg1; have hc := cell_gb hc hg1; clear hg1)
        | (go_at_call 48; refine (HVV.out _).mono ?_; rintro e w2 ⟨rfl, hg2⟩; have HG1 := hide (gb_trans HG1.out hg2 (.inl rfl)); have b0 := cell_gb b0 hg2; have b1 := cell_gb b1 hg2; have b2 := cell_gb b2 hg2; have b3 := cell_gb b3 hg2; have hc := cell_gb hc hg2; clear hg2)
        | (go_at_call 16; refine (HCT.out _ HG1.out).mono ?_; rintro e w3 ⟨rfl, hg3⟩; have HG1 := hide (gb_trans HG1.out hg3 (.inl rfl)); have b0 := cell_gb b0 hg3; have b1 := cell_gb b1 hg3; have b2 := cell_gb b2 hg3; have b3 := cell_gb b3 hg3; have hc := cell_gb hc hg3; clear hg3)
        | (go_at_call 53; refine (HB.out _).mono ?_; rintro e w4 ⟨rfl, rfl⟩))
      go_ret
      exact ⟨ret_b (by rw [HN.out]), gb_trans HG.out HG1.out (.inl rfl)⟩
theorem flat_ok {v : Vl} (h : okV v) (hf : rAtom v.t = true ∨ rVec v.t = true) : FlatC v := by
  obtain ⟨h1, h2, h3, h4, h5⟩ := ok_own h
  obtain ⟨p1, p2, p3, p4, p5, p6⟩ := plain_of h4
  unfold FlatC
  rcases hf with hf | hf
  · have hc : v.count = 1 := by
      have := atom_types hf
      rw [Vl.count_def, if_neg (by omega), if_neg (by omega), if_neg (by omega), if_neg (by omega)]
    have hl := p1 hf
    rcases atom_types hf with e | e
    · rw [if_pos (by rw [e]; rfl), hc]
      rw [(fields_sym h1 (.inr e)).1] at hl
      simpa using hl.symm
    · rw [if_neg (by rcases e with e | e | e | e <;> rw [e] <;> decide), hc]
      rw [(fields_num h1 (by omega)).1] at hl
      simpa using hl.symm
  · have ht : v.t = 3 ∨ (v.t = 1 ∨ v.t = 2 ∨ v.t = 4 ∨ v.t = 5) := by
      unfold rVec at hf
      simp at hf
      omega
    rcases ht with e | e
    · rw [if_pos (by rw [e]; rfl), count_sym e]
    · rw [if_neg (by rcases e with e | e | e | e <;> rw [e] <;> decide), count_num e]
theorem null_same {v : Vl} (h : okV v) (i : Int) : nullR v i = nullV v i := by
  by_cases hf : rAtom v.t = false ∧ rVec v.t = false
  · have ht : ¬ (v.t = 2 ∨ v.t = 4 ∨ v.t = 5 ∨ v.t = -2 ∨ v.t = -4 ∨ v.t = -5) ∧ ¬ (v.t = 3 ∨ v.t = -3) := by
      unfold rAtom rVec at hf
      simp at hf
      omega
    unfold nullR nullV
    rw [if_pos hf, if_neg ht.1, if_neg ht.2]
  · have hfl := flat_ok h (by
      cases h1 : rAtom v.t
      · right
        cases h2 : rVec v.t
        · exact absurd ⟨h1, h2⟩ hf
        · rfl
      · exact .inl rfl)
    have ht : v.t = 1 ∨ v.t = -1 ∨ (v.t = 2 ∨ v.t = 4 ∨ v.t = 5 ∨ v.t = -2 ∨ v.t = -4 ∨ v.t = -5) ∨ (v.t = 3 ∨ v.t = -3) := by
      unfold rAtom rVec at hf
      simp at hf
      omega
    unfold FlatC at hfl
    unfold nullR nullV
    rw [if_neg hf]
    by_cases hi : i < 0 ∨ (v.count : Int) ≤ i
    · rw [if_pos hi]
      rcases ht with e | e | e | e
      · rw [if_neg (by omega), if_neg (by omega)]
      · rw [if_neg (by omega), if_neg (by omega)]
      · rw [if_neg (show ¬ rAbs v.t = 3 by rcases e with e | e | e | e | e | e <;> rw [e] <;> decide)] at hfl
        rw [if_pos e, if_neg (by omega)]
      · rw [if_pos (show rAbs v.t = 3 by rcases e with e | e <;> rw [e] <;> rfl)] at hfl
        rw [if_neg (by omega), if_pos e, if_neg (by omega)]
    · rw [if_neg hi]
      rcases ht with e | e | e | e
      · rw [if_neg (by rw [e]; decide), if_pos (by rw [e]; rfl), if_neg (by omega), if_neg (by omega)]
      · rw [if_neg (by rw [e]; decide), if_pos (by rw [e]; rfl), if_neg (by omega), if_neg (by omega)]
      · rw [if_neg (show ¬ rAbs v.t = 3 by rcases e with e | e | e | e | e | e <;> rw [e] <;> decide)] at hfl
        rw [if_neg (show ¬ rAbs v.t = 3 by rcases e with e | e | e | e | e | e <;> rw [e] <;> decide), if_neg (show ¬ rAbs v.t = 1 by rcases e with e | e | e | e | e | e <;> rw [e] <;> decide), if_pos e, if_pos (by omega)]
      · rw [if_pos (show rAbs v.t = 3 by rcases e with e | e <;> rw [e] <;> rfl)] at hfl
        rw [if_pos (show rAbs v.t = 3 by rcases e with e | e <;> rw [e] <;> rfl), if_neg (by omega), if_pos e, if_pos (by omega)]
end Go.Proofs.Ytfckmkpfhchggaa
