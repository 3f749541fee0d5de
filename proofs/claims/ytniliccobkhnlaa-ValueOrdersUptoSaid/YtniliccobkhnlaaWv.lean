/-
  The document's own plain: lambdas; all types together.
-/
import Derived.Test.YtniliccobkhnlaaWu
namespace Go.Proofs.Ytniliccobkhnlaa
open Go.RowKit
attribute [local go_sem ↓] Go.wp_at_zero Go.wp_at_succ

set_option maxHeartbeats 8000000 in
set_option maxRecDepth 100000 in
/-- A lambda of other than one text. -/
theorem plain_lam0 (v : Vl) (w : World) (B : Nat) (nA : Option Addr) (nc : Nat) (sA : Option Addr) (sc : Nat) (lA : Option Addr) (lc : Nat) (ht : v.tot ≤ 1100000) (hsz : ∀ s ∈ v.s, s.size ≤ 1100000) (hB : B ≤ w.heap.size) (h : VB w B v nA nc sA sc lA lc) (ht0 : v.t = 100) (h1 : v.s.length ≠ 1) :
    Calls Try.prog 73 #[.agg #[.int .i64 v.t, .slice nA v.n.length nc, .slice sA v.s.length sc, .slice lA v.l.length lc]] w fun e w' => e = .returned (.bool (false)) ∧ w.grownBy w' none := by
  obtain ⟨l1, l2, l3, l4⟩ := Vl.lens v ht
  obtain ⟨wa, hwa⟩ : ∃ wa, wa = w.alloc (.cells #[.int .i64 v.t, .slice nA v.n.length nc, .slice sA v.s.length sc, .slice lA v.l.length lc] 26) := ⟨_, rfl⟩
  have hg : w.grownBy wa none := by rw [hwa]; exact gb_alloc (gb_refl w none) _
  have hc := C4.box w (.int .i64 v.t) (.slice nA v.n.length nc) (.slice sA v.s.length sc) (.slice lA v.l.length lc) 26
  rw [← hwa] at hc
  have b0 : wa.cell? ⟨w.heap.size, 0, none⟩ = some (.int .i64 v.t) := hc.c0
  have b1 : wa.cell? ⟨w.heap.size, 1, none⟩ = some (.slice nA v.n.length nc) := hc.c1
  have b2 : wa.cell? ⟨w.heap.size, 2, none⟩ = some (.slice sA v.s.length sc) := hc.c2
  have b3 : wa.cell? ⟨w.heap.size, 3, none⟩ = some (.slice lA v.l.length lc) := hc.c3
  have HV := hide (h.gb hg hB)
  have HG := hide hg
  have HWE := hide hwa
  have HSZ := hide hsz
  have HAT := hide (fun w2 : World => rAtom_any v.t (.slice nA v.n.length nc) (.slice sA v.s.length sc) (.slice lA v.l.length lc) w2)
  have HAB := hide (fun w2 : World => rAbs_any v.t w2)
  have ea : rAtom v.t = false := by rw [ht0]; rfl
  have eb : rAbs v.t = 100 := by rw [ht0]; rfl
  have e100 : (v.t == 100) = true := int_beq_t ht0
  rw [ea] at HAT
  rw [eb] at HAB
  clear ht0 ea eb
  have q1 : ((v.s.length : Int) != 1) = true := int_bne_f (by omega)
  clear h1
  clear ht hB h hg hwa hc hsz
  go_enter Try.func73, Try.ntmps73
  go_wp2_with fail
  rw [← HWE.out]
  go_wp2_with (first
    | (go_at_call 18; refine (HAT.out _).mono ?_; rintro e w1 ⟨rfl, hg1⟩; have b0 := cell_gb b0 hg1; have b1 := cell_gb b1 hg1; have b2 := cell_gb b2 hg1; have b3 := cell_gb b3 hg1; have HG1 := hide hg1; clear hg1)
    | (go_at_call 53; refine (HAB.out _).mono ?_; rintro e wq ⟨rfl, rfl⟩))
  go_quiet (fail)
  go_wp2_with fail
  go_ret
  exact ⟨rfl, gb_drewN (gb_trans HG.out HG1.out (.inl rfl)) _⟩

set_option maxHeartbeats 8000000 in
set_option maxRecDepth 100000 in
/-- A lambda. -/
theorem plain_lamS (v : Vl) (w : World) (B : Nat) (nA : Option Addr) (nc : Nat) (sA : Option Addr) (sc : Nat) (lA : Option Addr) (lc : Nat) (ht : v.tot ≤ 1100000) (hsz : ∀ s ∈ v.s, s.size ≤ 1100000) (hB : B ≤ w.heap.size) (h : VB w B v nA nc sA sc lA lc) (ht0 : v.t = 100) (x : ByteArray) (hl : v.s = [x]) (h2 : x.size < 2) :
    Calls Try.prog 73 #[.agg #[.int .i64 v.t, .slice nA v.n.length nc, .slice sA v.s.length sc, .slice lA v.l.length lc]] w fun e w' => e = .returned (.bool (false)) ∧ w.grownBy w' none := by
  obtain ⟨l1, l2, l3, l4⟩ := Vl.lens v ht
  obtain ⟨wa, hwa⟩ : ∃ wa, wa = w.alloc (.cells #[.int .i64 v.t, .slice nA v.n.length nc, .slice sA v.s.length sc, .slice lA v.l.length lc] 26) := ⟨_, rfl⟩
  have hg : w.grownBy wa none := by rw [hwa]; exact gb_alloc (gb_refl w none) _
  have hc := C4.box w (.int .i64 v.t) (.slice nA v.n.length nc) (.slice sA v.s.length sc) (.slice lA v.l.length lc) 26
  rw [← hwa] at hc
  have b0 : wa.cell? ⟨w.heap.size, 0, none⟩ = some (.int .i64 v.t) := hc.c0
  have b1 : wa.cell? ⟨w.heap.size, 1, none⟩ = some (.slice nA v.n.length nc) := hc.c1
  have b2 : wa.cell? ⟨w.heap.size, 2, none⟩ = some (.slice sA v.s.length sc) := hc.c2
  have b3 : wa.cell? ⟨w.heap.size, 3, none⟩ = some (.slice lA v.l.length lc) := hc.c3
  have HV := hide (h.gb hg hB)
  have HG := hide hg
  have HWE := hide hwa
  have HSZ := hide hsz
  have HAT := hide (fun w2 : World => rAtom_any v.t (.slice nA v.n.length nc) (.slice sA v.s.length sc) (.slice lA v.l.length lc) w2)
  have HAB := hide (fun w2 : World => rAbs_any v.t w2)
  have ea : rAtom v.t = false := by rw [ht0]; rfl
  have eb : rAbs v.t = 100 := by rw [ht0]; rfl
  have e100 : (v.t == 100) = true := int_beq_t ht0
  rw [ea] at HAT
  rw [eb] at HAB
  clear ht0 ea eb
  have h1 : v.s.length = 1 := by rw [hl]; rfl
  have hs00 : 0 < v.s.length := by omega
  have q1 : ((v.s.length : Int) != 1) = false := int_bne_t (by omega)
  have hs0 : (0 : Int) < (v.s.length : Int) := by omega
  have hRS := (h.gb hg hB).s
  rw [hl] at hRS
  obtain ⟨q, o, hsA, _, hlay⟩ := hRS.lay (by simp [strs])
  subst hsA
  have c0 : wa.cell? ⟨q, o, none⟩ = some (.string x) := by simpa using hlay 0 (.string x) rfl
  have HC0 := hide c0
  clear h1 hl hRS hlay c0
  have q2 : (x.size : Int) < 2 := by omega
  clear h2
  clear ht hB h hg hwa hc hsz
  go_enter Try.func73, Try.ntmps73
  go_wp2_with fail
  rw [← HWE.out]
  go_wp2_with (first
    | (go_at_call 18; refine (HAT.out _).mono ?_; rintro e w1 ⟨rfl, hg1⟩; have b0 := cell_gb b0 hg1; have b1 := cell_gb b1 hg1; have b2 := cell_gb b2 hg1; have b3 := cell_gb b3 hg1; have HG1 := hide hg1; have c0 := cell_gb HC0.out hg1; clear hg1)
    | (go_at_call 53; refine (HAB.out _).mono ?_; rintro e wq ⟨rfl, rfl⟩))
  go_quiet (fail)
  go_wp2_with fail
  go_ret
  exact ⟨rfl, gb_drewN (gb_trans HG.out HG1.out (.inl rfl)) _⟩

set_option maxHeartbeats 8000000 in
set_option maxRecDepth 100000 in
/-- A lambda. -/
theorem plain_lamH (v : Vl) (w : World) (B : Nat) (nA : Option Addr) (nc : Nat) (sA : Option Addr) (sc : Nat) (lA : Option Addr) (lc : Nat) (ht : v.tot ≤ 1100000) (hsz : ∀ s ∈ v.s, s.size ≤ 1100000) (hB : B ≤ w.heap.size) (h : VB w B v nA nc sA sc lA lc) (ht0 : v.t = 100) (x : ByteArray) (hl : v.s = [x]) (h2 : 2 ≤ x.size) (h3 : x[0] ≠ 123) :
    Calls Try.prog 73 #[.agg #[.int .i64 v.t, .slice nA v.n.length nc, .slice sA v.s.length sc, .slice lA v.l.length lc]] w fun e w' => e = .returned (.bool (false)) ∧ w.grownBy w' none := by
  obtain ⟨l1, l2, l3, l4⟩ := Vl.lens v ht
  obtain ⟨wa, hwa⟩ : ∃ wa, wa = w.alloc (.cells #[.int .i64 v.t, .slice nA v.n.length nc, .slice sA v.s.length sc, .slice lA v.l.length lc] 26) := ⟨_, rfl⟩
  have hg : w.grownBy wa none := by rw [hwa]; exact gb_alloc (gb_refl w none) _
  have hc := C4.box w (.int .i64 v.t) (.slice nA v.n.length nc) (.slice sA v.s.length sc) (.slice lA v.l.length lc) 26
  rw [← hwa] at hc
  have b0 : wa.cell? ⟨w.heap.size, 0, none⟩ = some (.int .i64 v.t) := hc.c0
  have b1 : wa.cell? ⟨w.heap.size, 1, none⟩ = some (.slice nA v.n.length nc) := hc.c1
  have b2 : wa.cell? ⟨w.heap.size, 2, none⟩ = some (.slice sA v.s.length sc) := hc.c2
  have b3 : wa.cell? ⟨w.heap.size, 3, none⟩ = some (.slice lA v.l.length lc) := hc.c3
  have HV := hide (h.gb hg hB)
  have HG := hide hg
  have HWE := hide hwa
  have HSZ := hide hsz
  have HAT := hide (fun w2 : World => rAtom_any v.t (.slice nA v.n.length nc) (.slice sA v.s.length sc) (.slice lA v.l.length lc) w2)
  have HAB := hide (fun w2 : World => rAbs_any v.t w2)
  have ea : rAtom v.t = false := by rw [ht0]; rfl
  have eb : rAbs v.t = 100 := by rw [ht0]; rfl
  have e100 : (v.t == 100) = true := int_beq_t ht0
  rw [ea] at HAT
  rw [eb] at HAB
  clear ht0 ea eb
  have h1 : v.s.length = 1 := by rw [hl]; rfl
  have hs00 : 0 < v.s.length := by omega
  have q1 : ((v.s.length : Int) != 1) = false := int_bne_t (by omega)
  have hs0 : (0 : Int) < (v.s.length : Int) := by omega
  have hRS := (h.gb hg hB).s
  rw [hl] at hRS
  obtain ⟨q, o, hsA, _, hlay⟩ := hRS.lay (by simp [strs])
  subst hsA
  have c0 : wa.cell? ⟨q, o, none⟩ = some (.string x) := by simpa using hlay 0 (.string x) rfl
  have HC0 := hide c0
  clear h1 hl hRS hlay c0
  have q2 : decide ((x.size : Int) < 2) = false := decide_eq_false (by omega)
  have q3 : (0 : Int) < (x.size : Int) := by omega
  have q4 : 0 < x.size := by omega
  have q5 : (((x[0]).toNat : Int) != 123) = true := int_bne_f (fun e => h3 (UInt8.toNat_inj.1 (by have : x[0].toNat = 123 := (by omega); rw [this]; rfl)))
  clear h2 h3
  clear ht hB h hg hwa hc hsz
  go_enter Try.func73, Try.ntmps73
  go_wp2_with fail
  rw [← HWE.out]
  go_wp2_with (first
    | (go_at_call 18; refine (HAT.out _).mono ?_; rintro e w1 ⟨rfl, hg1⟩; have b0 := cell_gb b0 hg1; have b1 := cell_gb b1 hg1; have b2 := cell_gb b2 hg1; have b3 := cell_gb b3 hg1; have HG1 := hide hg1; have c0 := cell_gb HC0.out hg1; clear hg1)
    | (go_at_call 53; refine (HAB.out _).mono ?_; rintro e wq ⟨rfl, rfl⟩))
  go_quiet (fail)
  go_wp2_with fail
  go_ret
  exact ⟨rfl, gb_drewN (gb_trans HG.out HG1.out (.inl rfl)) _⟩

set_option maxHeartbeats 8000000 in
set_option maxRecDepth 100000 in
/-- A lambda. -/
theorem plain_lamL (v : Vl) (w : World) (B : Nat) (nA : Option Addr) (nc : Nat) (sA : Option Addr) (sc : Nat) (lA : Option Addr) (lc : Nat) (ht : v.tot ≤ 1100000) (hsz : ∀ s ∈ v.s, s.size ≤ 1100000) (hB : B ≤ w.heap.size) (h : VB w B v nA nc sA sc lA lc) (ht0 : v.t = 100) (x : ByteArray) (hl : v.s = [x]) (m : Nat) (h2 : x.size = m + 1) (h1m : 1 ≤ m) (h3 : x[0] = 123) (h4 : x[m] ≠ 125) :
    Calls Try.prog 73 #[.agg #[.int .i64 v.t, .slice nA v.n.length nc, .slice sA v.s.length sc, .slice lA v.l.length lc]] w fun e w' => e = .returned (.bool (false)) ∧ w.grownBy w' none := by
  obtain ⟨l1, l2, l3, l4⟩ := Vl.lens v ht
  obtain ⟨wa, hwa⟩ : ∃ wa, wa = w.alloc (.cells #[.int .i64 v.t, .slice nA v.n.length nc, .slice sA v.s.length sc, .slice lA v.l.length lc] 26) := ⟨_, rfl⟩
  have hg : w.grownBy wa none := by rw [hwa]; exact gb_alloc (gb_refl w none) _
  have hc := C4.box w (.int .i64 v.t) (.slice nA v.n.length nc) (.slice sA v.s.length sc) (.slice lA v.l.length lc) 26
  rw [← hwa] at hc
  have b0 : wa.cell? ⟨w.heap.size, 0, none⟩ = some (.int .i64 v.t) := hc.c0
  have b1 : wa.cell? ⟨w.heap.size, 1, none⟩ = some (.slice nA v.n.length nc) := hc.c1
  have b2 : wa.cell? ⟨w.heap.size, 2, none⟩ = some (.slice sA v.s.length sc) := hc.c2
  have b3 : wa.cell? ⟨w.heap.size, 3, none⟩ = some (.slice lA v.l.length lc) := hc.c3
  have HV := hide (h.gb hg hB)
  have HG := hide hg
  have HWE := hide hwa
  have HSZ := hide hsz
  have HAT := hide (fun w2 : World => rAtom_any v.t (.slice nA v.n.length nc) (.slice sA v.s.length sc) (.slice lA v.l.length lc) w2)
  have HAB := hide (fun w2 : World => rAbs_any v.t w2)
  have ea : rAtom v.t = false := by rw [ht0]; rfl
  have eb : rAbs v.t = 100 := by rw [ht0]; rfl
  have e100 : (v.t == 100) = true := int_beq_t ht0
  rw [ea] at HAT
  rw [eb] at HAB
  clear ht0 ea eb
  have h1 : v.s.length = 1 := by rw [hl]; rfl
  have hs00 : 0 < v.s.length := by omega
  have q1 : ((v.s.length : Int) != 1) = false := int_bne_t (by omega)
  have hs0 : (0 : Int) < (v.s.length : Int) := by omega
  have hRS := (h.gb hg hB).s
  rw [hl] at hRS
  obtain ⟨q, o, hsA, _, hlay⟩ := hRS.lay (by simp [strs])
  subst hsA
  have c0 : wa.cell? ⟨q, o, none⟩ = some (.string x) := by simpa using hlay 0 (.string x) rfl
  have HC0 := hide c0
  have hxs : x.size ≤ 1100000 := hsz x (by rw [hl]; simp)
  clear h1 hl hRS hlay c0
  have q2 : decide ((x.size : Int) < 2) = false := decide_eq_false (by omega)
  have q3 : (0 : Int) < (x.size : Int) := by omega
  have q4 : 0 < x.size := by omega
  have q7 : m < x.size := by omega
  have q5 : (((x[0]'q4).toNat : Int) != 123) = false := by rw [h3]; rfl
  have q6 : (((x[m]'q7).toNat : Int) != 125) = true := int_bne_f (fun e => h4 (UInt8.toNat_inj.1 (by have : x[m].toNat = 125 := (by omega); rw [this]; rfl)))
  have q8 : (m : Int) < (x.size : Int) := by omega
  have q9 : (x.size : Int) - 1 = (m : Int) := by omega
  have q11 : (0 : Int) ≤ (m : Int) := Int.natCast_nonneg m
  have q10a : (m : Int) ≤ 9223372036854775807 := by omega
  have q10 : wrap64 (m : Int) = (m : Int) := Go.IntWalk.wrap64_in _ (And.intro (by omega) q10a)
  clear h2 h3 h4 hxs q10a
  clear ht hB h hg hwa hc hsz
  go_enter Try.func73, Try.ntmps73
  go_wp2_with fail
  rw [← HWE.out]
  go_wp2_with (first
    | (go_at_call 18; refine (HAT.out _).mono ?_; rintro e w1 ⟨rfl, hg1⟩; have b0 := cell_gb b0 hg1; have b1 := cell_gb b1 hg1; have b2 := cell_gb b2 hg1; have b3 := cell_gb b3 hg1; have HG1 := hide hg1; have c0 := cell_gb HC0.out hg1; clear hg1)
    | (go_at_call 53; refine (HAB.out _).mono ?_; rintro e wq ⟨rfl, rfl⟩))
  go_quiet (fail)
  go_wp2_with fail
  go_ret
  exact ⟨rfl, gb_drewN (gb_trans HG.out HG1.out (.inl rfl)) _⟩

set_option maxHeartbeats 8000000 in
set_option maxRecDepth 100000 in
/-- A lambda. -/
theorem plain_lamOk (v : Vl) (w : World) (B : Nat) (nA : Option Addr) (nc : Nat) (sA : Option Addr) (sc : Nat) (lA : Option Addr) (lc : Nat) (ht : v.tot ≤ 1100000) (hsz : ∀ s ∈ v.s, s.size ≤ 1100000) (hB : B ≤ w.heap.size) (h : VB w B v nA nc sA sc lA lc) (ht0 : v.t = 100) (x : ByteArray) (hl : v.s = [x]) (m : Nat) (h2 : x.size = m + 1) (h1m : 1 ≤ m) (h3 : x[0] = 123) (h4 : x[m] = 125) :
    Calls Try.prog 73 #[.agg #[.int .i64 v.t, .slice nA v.n.length nc, .slice sA v.s.length sc, .slice lA v.l.length lc]] w fun e w' => e = .returned (.bool (true)) ∧ w.grownBy w' none := by
  obtain ⟨l1, l2, l3, l4⟩ := Vl.lens v ht
  obtain ⟨wa, hwa⟩ : ∃ wa, wa = w.alloc (.cells #[.int .i64 v.t, .slice nA v.n.length nc, .slice sA v.s.length sc, .slice lA v.l.length lc] 26) := ⟨_, rfl⟩
  have hg : w.grownBy wa none := by rw [hwa]; exact gb_alloc (gb_refl w none) _
  have hc := C4.box w (.int .i64 v.t) (.slice nA v.n.length nc) (.slice sA v.s.length sc) (.slice lA v.l.length lc) 26
  rw [← hwa] at hc
  have b0 : wa.cell? ⟨w.heap.size, 0, none⟩ = some (.int .i64 v.t) := hc.c0
  have b1 : wa.cell? ⟨w.heap.size, 1, none⟩ = some (.slice nA v.n.length nc) := hc.c1
  have b2 : wa.cell? ⟨w.heap.size, 2, none⟩ = some (.slice sA v.s.length sc) := hc.c2
  have b3 : wa.cell? ⟨w.heap.size, 3, none⟩ = some (.slice lA v.l.length lc) := hc.c3
  have HV := hide (h.gb hg hB)
  have HG := hide hg
  have HWE := hide hwa
  have HSZ := hide hsz
  have HAT := hide (fun w2 : World => rAtom_any v.t (.slice nA v.n.length nc) (.slice sA v.s.length sc) (.slice lA v.l.length lc) w2)
  have HAB := hide (fun w2 : World => rAbs_any v.t w2)
  have ea : rAtom v.t = false := by rw [ht0]; rfl
  have eb : rAbs v.t = 100 := by rw [ht0]; rfl
  have e100 : (v.t == 100) = true := int_beq_t ht0
  rw [ea] at HAT
  rw [eb] at HAB
  clear ht0 ea eb
  have h1 : v.s.length = 1 := by rw [hl]; rfl
  have hs00 : 0 < v.s.length := by omega
  have q1 : ((v.s.length : Int) != 1) = false := int_bne_t (by omega)
  have hs0 : (0 : Int) < (v.s.length : Int) := by omega
  have hRS := (h.gb hg hB).s
  rw [hl] at hRS
  obtain ⟨q, o, hsA, _, hlay⟩ := hRS.lay (by simp [strs])
  subst hsA
  have c0 : wa.cell? ⟨q, o, none⟩ = some (.string x) := by simpa using hlay 0 (.string x) rfl
  have HC0 := hide c0
  have hxs : x.size ≤ 1100000 := hsz x (by rw [hl]; simp)
  clear h1 hl hRS hlay c0
  have q2 : decide ((x.size : Int) < 2) = false := decide_eq_false (by omega)
  have q3 : (0 : Int) < (x.size : Int) := by omega
  have q4 : 0 < x.size := by omega
  have q7 : m < x.size := by omega
  have q5 : (((x[0]'q4).toNat : Int) != 123) = false := by rw [h3]; rfl
  have q6 : (((x[m]'q7).toNat : Int) != 125) = false := by rw [h4]; rfl
  have q8 : (m : Int) < (x.size : Int) := by omega
  have q9 : (x.size : Int) - 1 = (m : Int) := by omega
  have q11 : (0 : Int) ≤ (m : Int) := Int.natCast_nonneg m
  have q10a : (m : Int) ≤ 9223372036854775807 := by omega
  have q10 : wrap64 (m : Int) = (m : Int) := Go.IntWalk.wrap64_in _ (And.intro (by omega) q10a)
  clear h2 h3 h4 hxs q10a
  clear ht hB h hg hwa hc hsz
  go_enter Try.func73, Try.ntmps73
  go_wp2_with fail
  rw [← HWE.out]
  go_wp2_with (first
    | (go_at_call 18; refine (HAT.out _).mono ?_; rintro e w1 ⟨rfl, hg1⟩; have b0 := cell_gb b0 hg1; have b1 := cell_gb b1 hg1; have b2 := cell_gb b2 hg1; have b3 := cell_gb b3 hg1; have HG1 := hide hg1; have c0 := cell_gb HC0.out hg1; clear hg1)
    | (go_at_call 53; refine (HAB.out _).mono ?_; rintro e wq ⟨rfl, rfl⟩))
  go_quiet (fail)
  go_wp2_with fail
  have HQ := hide (gb_drewN HG1.out nq)
  have b0 := cell_gb b0 (gb_drewN (gb_refl w1 none) nq)
  have b2 := cell_gb b2 (gb_drewN (gb_refl w1 none) nq)
  generalize w1.drewN nq = w2 at *
  go_loopw [4] (fun i wr => i = .int .i64 0 ∧ w2 = wr) (fun _ _ => 0)
  case atStart => exact ⟨rfl, rfl⟩
  case round =>
    obtain ⟨rfl, rfl⟩ := hrel
    go_wp2_with (go_at_call 53; refine (HAB.out _).mono ?_; rintro e wq ⟨rfl, rfl⟩)
    go_ret
    exact ⟨rfl, gb_trans HG.out HQ.out (.inl rfl)⟩
end Go.Proofs.Ytniliccobkhnlaa
