/-
  The document's own plain, type by type: lambdas, dictionaries.
-/
import Derived.Test.YtniliccobkhnlaaWt
namespace Go.Proofs.Ytniliccobkhnlaa
open Go.RowKit
attribute [local go_sem ↓] Go.wp_at_zero Go.wp_at_succ
/-- Are there a table's two parts? -/
def dictV (l : List Vl) : Bool := match l with
  | [a, b] => (rCol a.t && rCol b.t) || (decide (a.t = 98) && decide (b.t = 98))
  | _ => false

set_option maxHeartbeats 8000000 in
set_option maxRecDepth 100000 in
/-- A dictionary of other than two parts. -/
theorem plain_dict0 (v : Vl) (w : World) (B : Nat) (nA : Option Addr) (nc : Nat) (sA : Option Addr) (sc : Nat) (lA : Option Addr) (lc : Nat) (ht : v.tot ≤ 1100000) (hsz : ∀ s ∈ v.s, s.size ≤ 1100000) (hB : B ≤ w.heap.size) (h : VB w B v nA nc sA sc lA lc) (ht0 : v.t = 99) (h2 : v.l.length ≠ 2) :
    Calls Try.prog 73 #[.agg #[.int .i64 v.t, .slice nA v.n.length nc, .slice sA v.s.length sc, .slice lA v.l.length lc]] w fun e w' => e = .returned (.bool (false)) ∧ w.grownBy w' none := by
  obtain ⟨l1, l2, l3, l4⟩ := Vl.lens v ht
  obtain ⟨wa, hwa⟩ : ∃ wa, wa = w.alloc (.cells #[.int .i64 v.t, .slice nA v.n.length nc, .slice sA v.s.length sc, .slice lA v.l.length lc] 26) := ⟨_, rfl⟩
  have hg : w.grownBy wa none := by rw [hwa]; exact gb_alloc (gb_refl w none) _
  have hc := C4.box w (.int .i64 v.t) (.slice nA v.n.length nc) (.slice sA v.s.length sc) (.slice lA v.l.length lc) 26
  rw [← hwa] at hc
  have b0 : wa.cell? ⟨w.heap.size, 0, none⟩ = some (.int .i64 v.t) := hc.c0
  have b1 : wa.cell? ⟨w.heap.size, 1, none⟩ = some (.slice nA v.n.length nc) := hc.c1
  have b2 : wa.cell? ⟨w.heap.size, 2, none⟩ = some (.slice sA v.s.length sc) := hc.c2
  have b3 : wa.cell? ⟨w.heap.size, 3, none⟩ = some (.slice lA v.l.length lc) := hc.c3
  have HV := hide (h.gb hg hB)
  have HG := hide hg
  have HWE := hide hwa
  have HSZ := hide hsz
  have HAT := hide (fun w2 : World => rAtom_any v.t (.slice nA v.n.length nc) (.slice sA v.s.length sc) (.slice lA v.l.length lc) w2)
  have HAB := hide (fun w2 : World => rAbs_any v.t w2)
  have ea : rAtom v.t = false := by rw [ht0]; rfl
  have eb : rAbs v.t = 99 := by rw [ht0]; rfl
  have e100 : (v.t == 100) = false := int_beq_f (by omega)
  have e0 : (v.t == 0) = false := int_beq_f (by omega)
  have e98 : (v.t == 98) = false := int_beq_f (by omega)
  have e99 : (v.t == 99) = true := int_beq_t ht0
  rw [ea] at HAT
  rw [eb] at HAB
  clear ht0 ea eb
  have q2 : ((v.l.length : Int) == 2) = false := int_beq_f (by omega)
  clear h2
  clear ht hB h hg hwa hc hsz
  go_enter Try.func73, Try.ntmps73
  go_wp2_with fail
  rw [← HWE.out]
  go_wp2_with (first
    | (go_at_call 18; refine (HAT.out _).mono ?_; rintro e w1 ⟨rfl, hg1⟩; have b0 := cell_gb b0 hg1; have b1 := cell_gb b1 hg1; have b2 := cell_gb b2 hg1; have b3 := cell_gb b3 hg1; have HG1 := hide hg1; clear hg1)
    | (go_at_call 53; refine (HAB.out _).mono ?_; rintro e wq ⟨rfl, rfl⟩))
  go_ret
  exact ⟨rfl, gb_trans HG.out HG1.out (.inl rfl)⟩

set_option maxHeartbeats 8000000 in
set_option maxRecDepth 100000 in
/-- A dictionary. -/
theorem plain_dictCC (v : Vl) (w : World) (B : Nat) (nA : Option Addr) (nc : Nat) (sA : Option Addr) (sc : Nat) (lA : Option Addr) (lc : Nat) (ht : v.tot ≤ 1100000) (hsz : ∀ s ∈ v.s, s.size ≤ 1100000) (hB : B ≤ w.heap.size) (h : VB w B v nA nc sA sc lA lc) (ht0 : v.t = 99) (a b : Vl) (hl : v.l = [a, b]) (k0 : rCol a.t = true) (k1 : rCol b.t = true) :
    Calls Try.prog 73 #[.agg #[.int .i64 v.t, .slice nA v.n.length nc, .slice sA v.s.length sc, .slice lA v.l.length lc]] w fun e w' => e = .returned (.bool (true)) ∧ w.grownBy w' none := by
  obtain ⟨l1, l2, l3, l4⟩ := Vl.lens v ht
  obtain ⟨wa, hwa⟩ : ∃ wa, wa = w.alloc (.cells #[.int .i64 v.t, .slice nA v.n.length nc, .slice sA v.s.length sc, .slice lA v.l.length lc] 26) := ⟨_, rfl⟩
  have hg : w.grownBy wa none := by rw [hwa]; exact gb_alloc (gb_refl w none) _
  have hc := C4.box w (.int .i64 v.t) (.slice nA v.n.length nc) (.slice sA v.s.length sc) (.slice lA v.l.length lc) 26
  rw [← hwa] at hc
  have b0 : wa.cell? ⟨w.heap.size, 0, none⟩ = some (.int .i64 v.t) := hc.c0
  have b1 : wa.cell? ⟨w.heap.size, 1, none⟩ = some (.slice nA v.n.length nc) := hc.c1
  have b2 : wa.cell? ⟨w.heap.size, 2, none⟩ = some (.slice sA v.s.length sc) := hc.c2
  have b3 : wa.cell? ⟨w.heap.size, 3, none⟩ = some (.slice lA v.l.length lc) := hc.c3
  have HV := hide (h.gb hg hB)
  have HG := hide hg
  have HWE := hide hwa
  have HSZ := hide hsz
  have HAT := hide (fun w2 : World => rAtom_any v.t (.slice nA v.n.length nc) (.slice sA v.s.length sc) (.slice lA v.l.length lc) w2)
  have HAB := hide (fun w2 : World => rAbs_any v.t w2)
  have ea : rAtom v.t = false := by rw [ht0]; rfl
  have eb : rAbs v.t = 99 := by rw [ht0]; rfl
  have e100 : (v.t == 100) = false := int_beq_f (by omega)
  have e0 : (v.t == 0) = false := int_beq_f (by omega)
  have e98 : (v.t == 98) = false := int_beq_f (by omega)
  have e99 : (v.t == 99) = true := int_beq_t ht0
  rw [ea] at HAT
  rw [eb] at HAB
  clear ht0 ea eb
  have h2 : v.l.length = 2 := by rw [hl]; rfl
  have q2 : ((v.l.length : Int) == 2) = true := int_beq_t (by rw [h2]; rfl)
  have hl0 : (0 : Int) < (v.l.length : Int) := by omega
  have hl1 : (1 : Int) < (v.l.length : Int) := by omega
  have hRV := (h.gb hg hB).l
  rw [hl] at hRV
  obtain ⟨q, o, xA, xc, yA, yc, zA, zc, hlA, hqB, hc4, _⟩ := hRV.at_ (i := 0) (by simp)
  obtain ⟨q', o', xA', xc', yA', yc', zA', zc', hlA', _, hc5, _⟩ := hRV.at_ (i := 1) (by simp)
  subst hlA
  cases hlA'
  obtain ⟨d0, d1, d2, d3⟩ := hc4
  obtain ⟨f0, f1, f2, f3⟩ := hc5
  have d0 : wa.cell? ⟨q, o, none⟩ = some (.int .i64 a.t) := by simpa using d0
  have d1 : wa.cell? ⟨q, o + 1, none⟩ = some (.slice xA a.n.length xc) := by simpa using d1
  have d2 : wa.cell? ⟨q, o + 2, none⟩ = some (.slice yA a.s.length yc) := by simpa using d2
  have d3 : wa.cell? ⟨q, o + 3, none⟩ = some (.slice zA a.l.length zc) := by simpa using d3
  have f0 : wa.cell? ⟨q, o + 4, none⟩ = some (.int .i64 b.t) := by simpa using f0
  have f1 : wa.cell? ⟨q, o + 4 + 1, none⟩ = some (.slice xA' b.n.length xc') := by simpa using f1
  have f2 : wa.cell? ⟨q, o + 4 + 2, none⟩ = some (.slice yA' b.s.length yc') := by simpa using f2
  have f3 : wa.cell? ⟨q, o + 4 + 3, none⟩ = some (.slice zA' b.l.length zc') := by simpa using f3
  have HC0 := hide (fun w2 : World => rCol_any a.t (.slice xA a.n.length xc) (.slice yA a.s.length yc) (.slice zA a.l.length zc) w2)
  have HC1 := hide (fun w2 : World => rCol_any b.t (.slice xA' b.n.length xc') (.slice yA' b.s.length yc') (.slice zA' b.l.length zc') w2)
  have HGWA := hide (fun (w2 : World) (k : wa.grownBy w2 none) => And.intro (And.intro (cell_gb d0 k) (And.intro (cell_gb d1 k) (And.intro (cell_gb d2 k) (cell_gb d3 k)))) (And.intro (cell_gb f0 k) (And.intro (cell_gb f1 k) (And.intro (cell_gb f2 k) (cell_gb f3 k)))))
  clear h2 hl hRV
  rw [k0] at HC0
  rw [k1] at HC1
  clear k0 k1
  clear ht hB h hg hwa hc hsz
  go_enter Try.func73, Try.ntmps73
  go_wp2_with fail
  rw [← HWE.out]
  go_wp2_with (first
    | (go_at_call 18; refine (HAT.out _).mono ?_; rintro e w1 ⟨rfl, hg1⟩; have b0 := cell_gb b0 hg1; have b1 := cell_gb b1 hg1; have b2 := cell_gb b2 hg1; have b3 := cell_gb b3 hg1; have HG1 := hide hg1; clear hg1; obtain ⟨⟨d0, d1, d2, d3⟩, f0, f1, f2, f3⟩ := HGWA.out _ HG1.out)
    | (go_at_call 53; refine (HAB.out _).mono ?_; rintro e wq ⟨rfl, rfl⟩)
    | (go_at_call 85; (with_reducible refine (HC0.out _).mono ?_); rintro e w2 ⟨rfl, hg2⟩; have b3 := cell_gb b3 hg2; have HG2 := hide (gb_trans HG1.out hg2 (.inl rfl)); clear hg2; obtain ⟨⟨d0, d1, d2, d3⟩, f0, f1, f2, f3⟩ := HGWA.out _ HG2.out)
    | (go_at_call 85; (with_reducible refine (HC1.out _).mono ?_); rintro e w3 ⟨rfl, hg3⟩; have b3 := cell_gb b3 hg3; have HG3 := hide (gb_trans HG2.out hg3 (.inl rfl)); clear hg3; obtain ⟨⟨d0, d1, d2, d3⟩, f0, f1, f2, f3⟩ := HGWA.out _ HG3.out))
  go_ret
  exact ⟨rfl, gb_trans HG.out HG3.out (.inl rfl)⟩

set_option maxHeartbeats 8000000 in
set_option maxRecDepth 100000 in
/-- A dictionary. -/
theorem plain_dictCNTT (v : Vl) (w : World) (B : Nat) (nA : Option Addr) (nc : Nat) (sA : Option Addr) (sc : Nat) (lA : Option Addr) (lc : Nat) (ht : v.tot ≤ 1100000) (hsz : ∀ s ∈ v.s, s.size ≤ 1100000) (hB : B ≤ w.heap.size) (h : VB w B v nA nc sA sc lA lc) (ht0 : v.t = 99) (a b : Vl) (hl : v.l = [a, b]) (k0 : rCol a.t = true) (k1 : rCol b.t = false) (t0 : a.t = 98) (t1 : b.t = 98) :
    Calls Try.prog 73 #[.agg #[.int .i64 v.t, .slice nA v.n.length nc, .slice sA v.s.length sc, .slice lA v.l.length lc]] w fun e w' => e = .returned (.bool (true)) ∧ w.grownBy w' none := by
  obtain ⟨l1, l2, l3, l4⟩ := Vl.lens v ht
  obtain ⟨wa, hwa⟩ : ∃ wa, wa = w.alloc (.cells #[.int .i64 v.t, .slice nA v.n.length nc, .slice sA v.s.length sc, .slice lA v.l.length lc] 26) := ⟨_, rfl⟩
  have hg : w.grownBy wa none := by rw [hwa]; exact gb_alloc (gb_refl w none) _
  have hc := C4.box w (.int .i64 v.t) (.slice nA v.n.length nc) (.slice sA v.s.length sc) (.slice lA v.l.length lc) 26
  rw [← hwa] at hc
  have b0 : wa.cell? ⟨w.heap.size, 0, none⟩ = some (.int .i64 v.t) := hc.c0
  have b1 : wa.cell? ⟨w.heap.size, 1, none⟩ = some (.slice nA v.n.length nc) := hc.c1
  have b2 : wa.cell? ⟨w.heap.size, 2, none⟩ = some (.slice sA v.s.length sc) := hc.c2
  have b3 : wa.cell? ⟨w.heap.size, 3, none⟩ = some (.slice lA v.l.length lc) := hc.c3
  have HV := hide (h.gb hg hB)
  have HG := hide hg
  have HWE := hide hwa
  have HSZ := hide hsz
  have HAT := hide (fun w2 : World => rAtom_any v.t (.slice nA v.n.length nc) (.slice sA v.s.length sc) (.slice lA v.l.length lc) w2)
  have HAB := hide (fun w2 : World => rAbs_any v.t w2)
  have ea : rAtom v.t = false := by rw [ht0]; rfl
  have eb : rAbs v.t = 99 := by rw [ht0]; rfl
  have e100 : (v.t == 100) = false := int_beq_f (by omega)
  have e0 : (v.t == 0) = false := int_beq_f (by omega)
  have e98 : (v.t == 98) = false := int_beq_f (by omega)
  have e99 : (v.t == 99) = true := int_beq_t ht0
  rw [ea] at HAT
  rw [eb] at HAB
  clear ht0 ea eb
  have h2 : v.l.length = 2 := by rw [hl]; rfl
  have q2 : ((v.l.length : Int) == 2) = true := int_beq_t (by rw [h2]; rfl)
  have hl0 : (0 : Int) < (v.l.length : Int) := by omega
  have hl1 : (1 : Int) < (v.l.length : Int) := by omega
  have hRV := (h.gb hg hB).l
  rw [hl] at hRV
  obtain ⟨q, o, xA, xc, yA, yc, zA, zc, hlA, hqB, hc4, _⟩ := hRV.at_ (i := 0) (by simp)
  obtain ⟨q', o', xA', xc', yA', yc', zA', zc', hlA', _, hc5, _⟩ := hRV.at_ (i := 1) (by simp)
  subst hlA
  cases hlA'
  obtain ⟨d0, d1, d2, d3⟩ := hc4
  obtain ⟨f0, f1, f2, f3⟩ := hc5
  have d0 : wa.cell? ⟨q, o, none⟩ = some (.int .i64 a.t) := by simpa using d0
  have d1 : wa.cell? ⟨q, o + 1, none⟩ = some (.slice xA a.n.length xc) := by simpa using d1
  have d2 : wa.cell? ⟨q, o + 2, none⟩ = some (.slice yA a.s.length yc) := by simpa using d2
  have d3 : wa.cell? ⟨q, o + 3, none⟩ = some (.slice zA a.l.length zc) := by simpa using d3
  have f0 : wa.cell? ⟨q, o + 4, none⟩ = some (.int .i64 b.t) := by simpa using f0
  have f1 : wa.cell? ⟨q, o + 4 + 1, none⟩ = some (.slice xA' b.n.length xc') := by simpa using f1
  have f2 : wa.cell? ⟨q, o + 4 + 2, none⟩ = some (.slice yA' b.s.length yc') := by simpa using f2
  have f3 : wa.cell? ⟨q, o + 4 + 3, none⟩ = some (.slice zA' b.l.length zc') := by simpa using f3
  have HC0 := hide (fun w2 : World => rCol_any a.t (.slice xA a.n.length xc) (.slice yA a.s.length yc) (.slice zA a.l.length zc) w2)
  have HC1 := hide (fun w2 : World => rCol_any b.t (.slice xA' b.n.length xc') (.slice yA' b.s.length yc') (.slice zA' b.l.length zc') w2)
  have HGWA := hide (fun (w2 : World) (k : wa.grownBy w2 none) => And.intro (And.intro (cell_gb d0 k) (And.intro (cell_gb d1 k) (And.intro (cell_gb d2 k) (cell_gb d3 k)))) (And.intro (cell_gb f0 k) (And.intro (cell_gb f1 k) (And.intro (cell_gb f2 k) (cell_gb f3 k)))))
  clear h2 hl hRV
  rw [k0] at HC0
  rw [k1] at HC1
  have q0 : (a.t == 98) = true := int_beq_t t0
  have q1 : (b.t == 98) = true := int_beq_t t1
  clear k0 k1 t0 t1
  clear ht hB h hg hwa hc hsz
  go_enter Try.func73, Try.ntmps73
  go_wp2_with fail
  rw [← HWE.out]
  go_wp2_with (first
    | (go_at_call 18; refine (HAT.out _).mono ?_; rintro e w1 ⟨rfl, hg1⟩; have b0 := cell_gb b0 hg1; have b1 := cell_gb b1 hg1; have b2 := cell_gb b2 hg1; have b3 := cell_gb b3 hg1; have HG1 := hide hg1; clear hg1; obtain ⟨⟨d0, d1, d2, d3⟩, f0, f1, f2, f3⟩ := HGWA.out _ HG1.out)
    | (go_at_call 53; refine (HAB.out _).mono ?_; rintro e wq ⟨rfl, rfl⟩)
    | (go_at_call 85; (with_reducible refine (HC0.out _).mono ?_); rintro e w2 ⟨rfl, hg2⟩; have b3 := cell_gb b3 hg2; have HG2 := hide (gb_trans HG1.out hg2 (.inl rfl)); clear hg2; obtain ⟨⟨d0, d1, d2, d3⟩, f0, f1, f2, f3⟩ := HGWA.out _ HG2.out)
    | (go_at_call 85; (with_reducible refine (HC1.out _).mono ?_); rintro e w3 ⟨rfl, hg3⟩; have b3 := cell_gb b3 hg3; have HG3 := hide (gb_trans HG2.out hg3 (.inl rfl)); clear hg3; obtain ⟨⟨d0, d1, d2, d3⟩, f0, f1, f2, f3⟩ := HGWA.out _ HG3.out))
  go_ret
  exact ⟨rfl, gb_trans HG.out HG3.out (.inl rfl)⟩

set_option maxHeartbeats 8000000 in
set_option maxRecDepth 100000 in
/-- A dictionary. -/
theorem plain_dictCNTN (v : Vl) (w : World) (B : Nat) (nA : Option Addr) (nc : Nat) (sA : Option Addr) (sc : Nat) (lA : Option Addr) (lc : Nat) (ht : v.tot ≤ 1100000) (hsz : ∀ s ∈ v.s, s.size ≤ 1100000) (hB : B ≤ w.heap.size) (h : VB w B v nA nc sA sc lA lc) (ht0 : v.t = 99) (a b : Vl) (hl : v.l = [a, b]) (k0 : rCol a.t = true) (k1 : rCol b.t = false) (t0 : a.t = 98) (t1 : b.t ≠ 98) :
    Calls Try.prog 73 #[.agg #[.int .i64 v.t, .slice nA v.n.length nc, .slice sA v.s.length sc, .slice lA v.l.length lc]] w fun e w' => e = .returned (.bool (false)) ∧ w.grownBy w' none := by
  obtain ⟨l1, l2, l3, l4⟩ := Vl.lens v ht
  obtain ⟨wa, hwa⟩ : ∃ wa, wa = w.alloc (.cells #[.int .i64 v.t, .slice nA v.n.length nc, .slice sA v.s.length sc, .slice lA v.l.length lc] 26) := ⟨_, rfl⟩
  have hg : w.grownBy wa none := by rw [hwa]; exact gb_alloc (gb_refl w none) _
  have hc := C4.box w (.int .i64 v.t) (.slice nA v.n.length nc) (.slice sA v.s.length sc) (.slice lA v.l.length lc) 26
  rw [← hwa] at hc
  have b0 : wa.cell? ⟨w.heap.size, 0, none⟩ = some (.int .i64 v.t) := hc.c0
  have b1 : wa.cell? ⟨w.heap.size, 1, none⟩ = some (.slice nA v.n.length nc) := hc.c1
  have b2 : wa.cell? ⟨w.heap.size, 2, none⟩ = some (.slice sA v.s.length sc) := hc.c2
  have b3 : wa.cell? ⟨w.heap.size, 3, none⟩ = some (.slice lA v.l.length lc) := hc.c3
  have HV := hide (h.gb hg hB)
  have HG := hide hg
  have HWE := hide hwa
  have HSZ := hide hsz
  have HAT := hide (fun w2 : World => rAtom_any v.t (.slice nA v.n.length nc) (.slice sA v.s.length sc) (.slice lA v.l.length lc) w2)
  have HAB := hide (fun w2 : World => rAbs_any v.t w2)
  have ea : rAtom v.t = false := by rw [ht0]; rfl
  have eb : rAbs v.t = 99 := by rw [ht0]; rfl
  have e100 : (v.t == 100) = false := int_beq_f (by omega)
  have e0 : (v.t == 0) = false := int_beq_f (by omega)
  have e98 : (v.t == 98) = false := int_beq_f (by omega)
  have e99 : (v.t == 99) = true := int_beq_t ht0
  rw [ea] at HAT
  rw [eb] at HAB
  clear ht0 ea eb
  have h2 : v.l.length = 2 := by rw [hl]; rfl
  have q2 : ((v.l.length : Int) == 2) = true := int_beq_t (by rw [h2]; rfl)
  have hl0 : (0 : Int) < (v.l.length : Int) := by omega
  have hl1 : (1 : Int) < (v.l.length : Int) := by omega
  have hRV := (h.gb hg hB).l
  rw [hl] at hRV
  obtain ⟨q, o, xA, xc, yA, yc, zA, zc, hlA, hqB, hc4, _⟩ := hRV.at_ (i := 0) (by simp)
  obtain ⟨q', o', xA', xc', yA', yc', zA', zc', hlA', _, hc5, _⟩ := hRV.at_ (i := 1) (by simp)
  subst hlA
  cases hlA'
  obtain ⟨d0, d1, d2, d3⟩ := hc4
  obtain ⟨f0, f1, f2, f3⟩ := hc5
  have d0 : wa.cell? ⟨q, o, none⟩ = some (.int .i64 a.t) := by simpa using d0
  have d1 : wa.cell? ⟨q, o + 1, none⟩ = some (.slice xA a.n.length xc) := by simpa using d1
  have d2 : wa.cell? ⟨q, o + 2, none⟩ = some (.slice yA a.s.length yc) := by simpa using d2
  have d3 : wa.cell? ⟨q, o + 3, none⟩ = some (.slice zA a.l.length zc) := by simpa using d3
  have f0 : wa.cell? ⟨q, o + 4, none⟩ = some (.int .i64 b.t) := by simpa using f0
  have f1 : wa.cell? ⟨q, o + 4 + 1, none⟩ = some (.slice xA' b.n.length xc') := by simpa using f1
  have f2 : wa.cell? ⟨q, o + 4 + 2, none⟩ = some (.slice yA' b.s.length yc') := by simpa using f2
  have f3 : wa.cell? ⟨q, o + 4 + 3, none⟩ = some (.slice zA' b.l.length zc') := by simpa using f3
  have HC0 := hide (fun w2 : World => rCol_any a.t (.slice xA a.n.length xc) (.slice yA a.s.length yc) (.slice zA a.l.length zc) w2)
  have HC1 := hide (fun w2 : World => rCol_any b.t (.slice xA' b.n.length xc') (.slice yA' b.s.length yc') (.slice zA' b.l.length zc') w2)
  have HGWA := hide (fun (w2 : World) (k : wa.grownBy w2 none) => And.intro (And.intro (cell_gb d0 k) (And.intro (cell_gb d1 k) (And.intro (cell_gb d2 k) (cell_gb d3 k)))) (And.intro (cell_gb f0 k) (And.intro (cell_gb f1 k) (And.intro (cell_gb f2 k) (cell_gb f3 k)))))
  clear h2 hl hRV
  rw [k0] at HC0
  rw [k1] at HC1
  have q0 : (a.t == 98) = true := int_beq_t t0
  have q1 : (b.t == 98) = false := int_beq_f t1
  clear k0 k1 t0 t1
  clear ht hB h hg hwa hc hsz
  go_enter Try.func73, Try.ntmps73
  go_wp2_with fail
  rw [← HWE.out]
  go_wp2_with (first
    | (go_at_call 18; refine (HAT.out _).mono ?_; rintro e w1 ⟨rfl, hg1⟩; have b0 := cell_gb b0 hg1; have b1 := cell_gb b1 hg1; have b2 := cell_gb b2 hg1; have b3 := cell_gb b3 hg1; have HG1 := hide hg1; clear hg1; obtain ⟨⟨d0, d1, d2, d3⟩, f0, f1, f2, f3⟩ := HGWA.out _ HG1.out)
    | (go_at_call 53; refine (HAB.out _).mono ?_; rintro e wq ⟨rfl, rfl⟩)
    | (go_at_call 85; (with_reducible refine (HC0.out _).mono ?_); rintro e w2 ⟨rfl, hg2⟩; have b3 := cell_gb b3 hg2; have HG2 := hide (gb_trans HG1.out hg2 (.inl rfl)); clear hg2; obtain ⟨⟨d0, d1, d2, d3⟩, f0, f1, f2, f3⟩ := HGWA.out _ HG2.out)
    | (go_at_call 85; (with_reducible refine (HC1.out _).mono ?_); rintro e w3 ⟨rfl, hg3⟩; have b3 := cell_gb b3 hg3; have HG3 := hide (gb_trans HG2.out hg3 (.inl rfl)); clear hg3; obtain ⟨⟨d0, d1, d2, d3⟩, f0, f1, f2, f3⟩ := HGWA.out _ HG3.out))
  go_ret
  exact ⟨rfl, gb_trans HG.out HG3.out (.inl rfl)⟩

set_option maxHeartbeats 8000000 in
set_option maxRecDepth 100000 in
/-- A dictionary. -/
theorem plain_dictCNNT (v : Vl) (w : World) (B : Nat) (nA : Option Addr) (nc : Nat) (sA : Option Addr) (sc : Nat) (lA : Option Addr) (lc : Nat) (ht : v.tot ≤ 1100000) (hsz : ∀ s ∈ v.s, s.size ≤ 1100000) (hB : B ≤ w.heap.size) (h : VB w B v nA nc sA sc lA lc) (ht0 : v.t = 99) (a b : Vl) (hl : v.l = [a, b]) (k0 : rCol a.t = true) (k1 : rCol b.t = false) (t0 : a.t ≠ 98) :
    Calls Try.prog 73 #[.agg #[.int .i64 v.t, .slice nA v.n.length nc, .slice sA v.s.length sc, .slice lA v.l.length lc]] w fun e w' => e = .returned (.bool (false)) ∧ w.grownBy w' none := by
  obtain ⟨l1, l2, l3, l4⟩ := Vl.lens v ht
  obtain ⟨wa, hwa⟩ : ∃ wa, wa = w.alloc (.cells #[.int .i64 v.t, .slice nA v.n.length nc, .slice sA v.s.length sc, .slice lA v.l.length lc] 26) := ⟨_, rfl⟩
  have hg : w.grownBy wa none := by rw [hwa]; exact gb_alloc (gb_refl w none) _
  have hc := C4.box w (.int .i64 v.t) (.slice nA v.n.length nc) (.slice sA v.s.length sc) (.slice lA v.l.length lc) 26
  rw [← hwa] at hc
  have b0 : wa.cell? ⟨w.heap.size, 0, none⟩ = some (.int .i64 v.t) := hc.c0
  have b1 : wa.cell? ⟨w.heap.size, 1, none⟩ = some (.slice nA v.n.length nc) := hc.c1
  have b2 : wa.cell? ⟨w.heap.size, 2, none⟩ = some (.slice sA v.s.length sc) := hc.c2
  have b3 : wa.cell? ⟨w.heap.size, 3, none⟩ = some (.slice lA v.l.length lc) := hc.c3
  have HV := hide (h.gb hg hB)
  have HG := hide hg
  have HWE := hide hwa
  have HSZ := hide hsz
  have HAT := hide (fun w2 : World => rAtom_any v.t (.slice nA v.n.length nc) (.slice sA v.s.length sc) (.slice lA v.l.length lc) w2)
  have HAB := hide (fun w2 : World => rAbs_any v.t w2)
  have ea : rAtom v.t = false := by rw [ht0]; rfl
  have eb : rAbs v.t = 99 := by rw [ht0]; rfl
  have e100 : (v.t == 100) = false := int_beq_f (by omega)
  have e0 : (v.t == 0) = false := int_beq_f (by omega)
  have e98 : (v.t == 98) = false := int_beq_f (by omega)
  have e99 : (v.t == 99) = true := int_beq_t ht0
  rw [ea] at HAT
  rw [eb] at HAB
  clear ht0 ea eb
  have h2 : v.l.length = 2 := by rw [hl]; rfl
  have q2 : ((v.l.length : Int) == 2) = true := int_beq_t (by rw [h2]; rfl)
  have hl0 : (0 : Int) < (v.l.length : Int) := by omega
  have hl1 : (1 : Int) < (v.l.length : Int) := by omega
  have hRV := (h.gb hg hB).l
  rw [hl] at hRV
  obtain ⟨q, o, xA, xc, yA, yc, zA, zc, hlA, hqB, hc4, _⟩ := hRV.at_ (i := 0) (by simp)
  obtain ⟨q', o', xA', xc', yA', yc', zA', zc', hlA', _, hc5, _⟩ := hRV.at_ (i := 1) (by simp)
  subst hlA
  cases hlA'
  obtain ⟨d0, d1, d2, d3⟩ := hc4
  obtain ⟨f0, f1, f2, f3⟩ := hc5
  have d0 : wa.cell? ⟨q, o, none⟩ = some (.int .i64 a.t) := by simpa using d0
  have d1 : wa.cell? ⟨q, o + 1, none⟩ = some (.slice xA a.n.length xc) := by simpa using d1
  have d2 : wa.cell? ⟨q, o + 2, none⟩ = some (.slice yA a.s.length yc) := by simpa using d2
  have d3 : wa.cell? ⟨q, o + 3, none⟩ = some (.slice zA a.l.length zc) := by simpa using d3
  have f0 : wa.cell? ⟨q, o + 4, none⟩ = some (.int .i64 b.t) := by simpa using f0
  have f1 : wa.cell? ⟨q, o + 4 + 1, none⟩ = some (.slice xA' b.n.length xc') := by simpa using f1
  have f2 : wa.cell? ⟨q, o + 4 + 2, none⟩ = some (.slice yA' b.s.length yc') := by simpa using f2
  have f3 : wa.cell? ⟨q, o + 4 + 3, none⟩ = some (.slice zA' b.l.length zc') := by simpa using f3
  have HC0 := hide (fun w2 : World => rCol_any a.t (.slice xA a.n.length xc) (.slice yA a.s.length yc) (.slice zA a.l.length zc) w2)
  have HC1 := hide (fun w2 : World => rCol_any b.t (.slice xA' b.n.length xc') (.slice yA' b.s.length yc') (.slice zA' b.l.length zc') w2)
  have HGWA := hide (fun (w2 : World) (k : wa.grownBy w2 none) => And.intro (And.intro (cell_gb d0 k) (And.intro (cell_gb d1 k) (And.intro (cell_gb d2 k) (cell_gb d3 k)))) (And.intro (cell_gb f0 k) (And.intro (cell_gb f1 k) (And.intro (cell_gb f2 k) (cell_gb f3 k)))))
  clear h2 hl hRV
  rw [k0] at HC0
  rw [k1] at HC1
  have q0 : (a.t == 98) = false := int_beq_f t0
  clear k0 k1 t0
  clear ht hB h hg hwa hc hsz
  go_enter Try.func73, Try.ntmps73
  go_wp2_with fail
  rw [← HWE.out]
  go_wp2_with (first
    | (go_at_call 18; refine (HAT.out _).mono ?_; rintro e w1 ⟨rfl, hg1⟩; have b0 := cell_gb b0 hg1; have b1 := cell_gb b1 hg1; have b2 := cell_gb b2 hg1; have b3 := cell_gb b3 hg1; have HG1 := hide hg1; clear hg1; obtain ⟨⟨d0, d1, d2, d3⟩, f0, f1, f2, f3⟩ := HGWA.out _ HG1.out)
    | (go_at_call 53; refine (HAB.out _).mono ?_; rintro e wq ⟨rfl, rfl⟩)
    | (go_at_call 85; (with_reducible refine (HC0.out _).mono ?_); rintro e w2 ⟨rfl, hg2⟩; have b3 := cell_gb b3 hg2; have HG2 := hide (gb_trans HG1.out hg2 (.inl rfl)); clear hg2; obtain ⟨⟨d0, d1, d2, d3⟩, f0, f1, f2, f3⟩ := HGWA.out _ HG2.out)
    | (go_at_call 85; (with_reducible refine (HC1.out _).mono ?_); rintro e w3 ⟨rfl, hg3⟩; have b3 := cell_gb b3 hg3; have HG3 := hide (gb_trans HG2.out hg3 (.inl rfl)); clear hg3; obtain ⟨⟨d0, d1, d2, d3⟩, f0, f1, f2, f3⟩ := HGWA.out _ HG3.out))
  go_ret
  exact ⟨rfl, gb_trans HG.out HG3.out (.inl rfl)⟩

set_option maxHeartbeats 8000000 in
set_option maxRecDepth 100000 in
/-- A dictionary. -/
theorem plain_dictNTT (v : Vl) (w : World) (B : Nat) (nA : Option Addr) (nc : Nat) (sA : Option Addr) (sc : Nat) (lA : Option Addr) (lc : Nat) (ht : v.tot ≤ 1100000) (hsz : ∀ s ∈ v.s, s.size ≤ 1100000) (hB : B ≤ w.heap.size) (h : VB w B v nA nc sA sc lA lc) (ht0 : v.t = 99) (a b : Vl) (hl : v.l = [a, b]) (k0 : rCol a.t = false) (t0 : a.t = 98) (t1 : b.t = 98) :
    Calls Try.prog 73 #[.agg #[.int .i64 v.t, .slice nA v.n.length nc, .slice sA v.s.length sc, .slice lA v.l.length lc]] w fun e w' => e = .returned (.bool (true)) ∧ w.grownBy w' none := by
  obtain ⟨l1, l2, l3, l4⟩ := Vl.lens v ht
  obtain ⟨wa, hwa⟩ : ∃ wa, wa = w.alloc (.cells #[.int .i64 v.t, .slice nA v.n.length nc, .slice sA v.s.length sc, .slice lA v.l.length lc] 26) := ⟨_, rfl⟩
  have hg : w.grownBy wa none := by rw [hwa]; exact gb_alloc (gb_refl w none) _
  have hc := C4.box w (.int .i64 v.t) (.slice nA v.n.length nc) (.slice sA v.s.length sc) (.slice lA v.l.length lc) 26
  rw [← hwa] at hc
  have b0 : wa.cell? ⟨w.heap.size, 0, none⟩ = some (.int .i64 v.t) := hc.c0
  have b1 : wa.cell? ⟨w.heap.size, 1, none⟩ = some (.slice nA v.n.length nc) := hc.c1
  have b2 : wa.cell? ⟨w.heap.size, 2, none⟩ = some (.slice sA v.s.length sc) := hc.c2
  have b3 : wa.cell? ⟨w.heap.size, 3, none⟩ = some (.slice lA v.l.length lc) := hc.c3
  have HV := hide (h.gb hg hB)
  have HG := hide hg
  have HWE := hide hwa
  have HSZ := hide hsz
  have HAT := hide (fun w2 : World => rAtom_any v.t (.slice nA v.n.length nc) (.slice sA v.s.length sc) (.slice lA v.l.length lc) w2)
  have HAB := hide (fun w2 : World => rAbs_any v.t w2)
  have ea : rAtom v.t = false := by rw [ht0]; rfl
  have eb : rAbs v.t = 99 := by rw [ht0]; rfl
  have e100 : (v.t == 100) = false := int_beq_f (by omega)
  have e0 : (v.t == 0) = false := int_beq_f (by omega)
  have e98 : (v.t == 98) = false := int_beq_f (by omega)
  have e99 : (v.t == 99) = true := int_beq_t ht0
  rw [ea] at HAT
  rw [eb] at HAB
  clear ht0 ea eb
  have h2 : v.l.length = 2 := by rw [hl]; rfl
  have q2 : ((v.l.length : Int) == 2) = true := int_beq_t (by rw [h2]; rfl)
  have hl0 : (0 : Int) < (v.l.length : Int) := by omega
  have hl1 : (1 : Int) < (v.l.length : Int) := by omega
  have hRV := (h.gb hg hB).l
  rw [hl] at hRV
  obtain ⟨q, o, xA, xc, yA, yc, zA, zc, hlA, hqB, hc4, _⟩ := hRV.at_ (i := 0) (by simp)
  obtain ⟨q', o', xA', xc', yA', yc', zA', zc', hlA', _, hc5, _⟩ := hRV.at_ (i := 1) (by simp)
  subst hlA
  cases hlA'
  obtain ⟨d0, d1, d2, d3⟩ := hc4
  obtain ⟨f0, f1, f2, f3⟩ := hc5
  have d0 : wa.cell? ⟨q, o, none⟩ = some (.int .i64 a.t) := by simpa using d0
  have d1 : wa.cell? ⟨q, o + 1, none⟩ = some (.slice xA a.n.length xc) := by simpa using d1
  have d2 : wa.cell? ⟨q, o + 2, none⟩ = some (.slice yA a.s.length yc) := by simpa using d2
  have d3 : wa.cell? ⟨q, o + 3, none⟩ = some (.slice zA a.l.length zc) := by simpa using d3
  have f0 : wa.cell? ⟨q, o + 4, none⟩ = some (.int .i64 b.t) := by simpa using f0
  have f1 : wa.cell? ⟨q, o + 4 + 1, none⟩ = some (.slice xA' b.n.length xc') := by simpa using f1
  have f2 : wa.cell? ⟨q, o + 4 + 2, none⟩ = some (.slice yA' b.s.length yc') := by simpa using f2
  have f3 : wa.cell? ⟨q, o + 4 + 3, none⟩ = some (.slice zA' b.l.length zc') := by simpa using f3
  have HC0 := hide (fun w2 : World => rCol_any a.t (.slice xA a.n.length xc) (.slice yA a.s.length yc) (.slice zA a.l.length zc) w2)
  have HC1 := hide (fun w2 : World => rCol_any b.t (.slice xA' b.n.length xc') (.slice yA' b.s.length yc') (.slice zA' b.l.length zc') w2)
  have HGWA := hide (fun (w2 : World) (k : wa.grownBy w2 none) => And.intro (And.intro (cell_gb d0 k) (And.intro (cell_gb d1 k) (And.intro (cell_gb d2 k) (cell_gb d3 k)))) (And.intro (cell_gb f0 k) (And.intro (cell_gb f1 k) (And.intro (cell_gb f2 k) (cell_gb f3 k)))))
  clear h2 hl hRV
  rw [k0] at HC0
  have q0 : (a.t == 98) = true := int_beq_t t0
  have q1 : (b.t == 98) = true := int_beq_t t1
  clear k0 t0 t1
  clear ht hB h hg hwa hc hsz
  go_enter Try.func73, Try.ntmps73
  go_wp2_with fail
  rw [← HWE.out]
  go_wp2_with (first
    | (go_at_call 18; refine (HAT.out _).mono ?_; rintro e w1 ⟨rfl, hg1⟩; have b0 := cell_gb b0 hg1; have b1 := cell_gb b1 hg1; have b2 := cell_gb b2 hg1; have b3 := cell_gb b3 hg1; have HG1 := hide hg1; clear hg1; obtain ⟨⟨d0, d1, d2, d3⟩, f0, f1, f2, f3⟩ := HGWA.out _ HG1.out)
    | (go_at_call 53; refine (HAB.out _).mono ?_; rintro e wq ⟨rfl, rfl⟩)
    | (go_at_call 85; (with_reducible refine (HC0.out _).mono ?_); rintro e w2 ⟨rfl, hg2⟩; have b3 := cell_gb b3 hg2; have HG2 := hide (gb_trans HG1.out hg2 (.inl rfl)); clear hg2; obtain ⟨⟨d0, d1, d2, d3⟩, f0, f1, f2, f3⟩ := HGWA.out _ HG2.out))
  go_ret
  exact ⟨rfl, gb_trans HG.out HG2.out (.inl rfl)⟩

set_option maxHeartbeats 8000000 in
set_option maxRecDepth 100000 in
/-- A dictionary. -/
theorem plain_dictNTN (v : Vl) (w : World) (B : Nat) (nA : Option Addr) (nc : Nat) (sA : Option Addr) (sc : Nat) (lA : Option Addr) (lc : Nat) (ht : v.tot ≤ 1100000) (hsz : ∀ s ∈ v.s, s.size ≤ 1100000) (hB : B ≤ w.heap.size) (h : VB w B v nA nc sA sc lA lc) (ht0 : v.t = 99) (a b : Vl) (hl : v.l = [a, b]) (k0 : rCol a.t = false) (t0 : a.t = 98) (t1 : b.t ≠ 98) :
    Calls Try.prog 73 #[.agg #[.int .i64 v.t, .slice nA v.n.length nc, .slice sA v.s.length sc, .slice lA v.l.length lc]] w fun e w' => e = .returned (.bool (false)) ∧ w.grownBy w' none := by
  obtain ⟨l1, l2, l3, l4⟩ := Vl.lens v ht
  obtain ⟨wa, hwa⟩ : ∃ wa, wa = w.alloc (.cells #[.int .i64 v.t, .slice nA v.n.length nc, .slice sA v.s.length sc, .slice lA v.l.length lc] 26) := ⟨_, rfl⟩
  have hg : w.grownBy wa none := by rw [hwa]; exact gb_alloc (gb_refl w none) _
  have hc := C4.box w (.int .i64 v.t) (.slice nA v.n.length nc) (.slice sA v.s.length sc) (.slice lA v.l.length lc) 26
  rw [← hwa] at hc
  have b0 : wa.cell? ⟨w.heap.size, 0, none⟩ = some (.int .i64 v.t) := hc.c0
  have b1 : wa.cell? ⟨w.heap.size, 1, none⟩ = some (.slice nA v.n.length nc) := hc.c1
  have b2 : wa.cell? ⟨w.heap.size, 2, none⟩ = some (.slice sA v.s.length sc) := hc.c2
  have b3 : wa.cell? ⟨w.heap.size, 3, none⟩ = some (.slice lA v.l.length lc) := hc.c3
  have HV := hide (h.gb hg hB)
  have HG := hide hg
  have HWE := hide hwa
  have HSZ := hide hsz
  have HAT := hide (fun w2 : World => rAtom_any v.t (.slice nA v.n.length nc) (.slice sA v.s.length sc) (.slice lA v.l.length lc) w2)
  have HAB := hide (fun w2 : World => rAbs_any v.t w2)
  have ea : rAtom v.t = false := by rw [ht0]; rfl
  have eb : rAbs v.t = 99 := by rw [ht0]; rfl
  have e100 : (v.t == 100) = false := int_beq_f (by omega)
  have e0 : (v.t == 0) = false := int_beq_f (by omega)
  have e98 : (v.t == 98) = false := int_beq_f (by omega)
  have e99 : (v.t == 99) = true := int_beq_t ht0
  rw [ea] at HAT
  rw [eb] at HAB
  clear ht0 ea eb
  have h2 : v.l.length = 2 := by rw [hl]; rfl
  have q2 : ((v.l.length : Int) == 2) = true := int_beq_t (by rw [h2]; rfl)
  have hl0 : (0 : Int) < (v.l.length : Int) := by omega
  have hl1 : (1 : Int) < (v.l.length : Int) := by omega
  have hRV := (h.gb hg hB).l
  rw [hl] at hRV
  obtain ⟨q, o, xA, xc, yA, yc, zA, zc, hlA, hqB, hc4, _⟩ := hRV.at_ (i := 0) (by simp)
  obtain ⟨q', o', xA', xc', yA', yc', zA', zc', hlA', _, hc5, _⟩ := hRV.at_ (i := 1) (by simp)
  subst hlA
  cases hlA'
  obtain ⟨d0, d1, d2, d3⟩ := hc4
  obtain ⟨f0, f1, f2, f3⟩ := hc5
  have d0 : wa.cell? ⟨q, o, none⟩ = some (.int .i64 a.t) := by simpa using d0
  have d1 : wa.cell? ⟨q, o + 1, none⟩ = some (.slice xA a.n.length xc) := by simpa using d1
  have d2 : wa.cell? ⟨q, o + 2, none⟩ = some (.slice yA a.s.length yc) := by simpa using d2
  have d3 : wa.cell? ⟨q, o + 3, none⟩ = some (.slice zA a.l.length zc) := by simpa using d3
  have f0 : wa.cell? ⟨q, o + 4, none⟩ = some (.int .i64 b.t) := by simpa using f0
  have f1 : wa.cell? ⟨q, o + 4 + 1, none⟩ = some (.slice xA' b.n.length xc') := by simpa using f1
  have f2 : wa.cell? ⟨q, o + 4 + 2, none⟩ = some (.slice yA' b.s.length yc') := by simpa using f2
  have f3 : wa.cell? ⟨q, o + 4 + 3, none⟩ = some (.slice zA' b.l.length zc') := by simpa using f3
  have HC0 := hide (fun w2 : World => rCol_any a.t (.slice xA a.n.length xc) (.slice yA a.s.length yc) (.slice zA a.l.length zc) w2)
  have HC1 := hide (fun w2 : World => rCol_any b.t (.slice xA' b.n.length xc') (.slice yA' b.s.length yc') (.slice zA' b.l.length zc') w2)
  have HGWA := hide (fun (w2 : World) (k : wa.grownBy w2 none) => And.intro (And.intro (cell_gb d0 k) (And.intro (cell_gb d1 k) (And.intro (cell_gb d2 k) (cell_gb d3 k)))) (And.intro (cell_gb f0 k) (And.intro (cell_gb f1 k) (And.intro (cell_gb f2 k) (cell_gb f3 k)))))
  clear h2 hl hRV
  rw [k0] at HC0
  have q0 : (a.t == 98) = true := int_beq_t t0
  have q1 : (b.t == 98) = false := int_beq_f t1
  clear k0 t0 t1
  clear ht hB h hg hwa hc hsz
  go_enter Try.func73, Try.ntmps73
  go_wp2_with fail
  rw [← HWE.out]
  go_wp2_with (first
    | (go_at_call 18; refine (HAT.out _).mono ?_; rintro e w1 ⟨rfl, hg1⟩; have b0 := cell_gb b0 hg1; have b1 := cell_gb b1 hg1; have b2 := cell_gb b2 hg1; have b3 := cell_gb b3 hg1; have HG1 := hide hg1; clear hg1; obtain ⟨⟨d0, d1, d2, d3⟩, f0, f1, f2, f3⟩ := HGWA.out _ HG1.out)
    | (go_at_call 53; refine (HAB.out _).mono ?_; rintro e wq ⟨rfl, rfl⟩)
    | (go_at_call 85; (with_reducible refine (HC0.out _).mono ?_); rintro e w2 ⟨rfl, hg2⟩; have b3 := cell_gb b3 hg2; have HG2 := hide (gb_trans HG1.out hg2 (.inl rfl)); clear hg2; obtain ⟨⟨d0, d1, d2, d3⟩, f0, f1, f2, f3⟩ := HGWA.out _ HG2.out))
  go_ret
  exact ⟨rfl, gb_trans HG.out HG2.out (.inl rfl)⟩

set_option maxHeartbeats 8000000 in
set_option maxRecDepth 100000 in
/-- A dictionary. -/
theorem plain_dictNNT (v : Vl) (w : World) (B : Nat) (nA : Option Addr) (nc : Nat) (sA : Option Addr) (sc : Nat) (lA : Option Addr) (lc : Nat) (ht : v.tot ≤ 1100000) (hsz : ∀ s ∈ v.s, s.size ≤ 1100000) (hB : B ≤ w.heap.size) (h : VB w B v nA nc sA sc lA lc) (ht0 : v.t = 99) (a b : Vl) (hl : v.l = [a, b]) (k0 : rCol a.t = false) (t0 : a.t ≠ 98) :
    Calls Try.prog 73 #[.agg #[.int .i64 v.t, .slice nA v.n.length nc, .slice sA v.s.length sc, .slice lA v.l.length lc]] w fun e w' => e = .returned (.bool (false)) ∧ w.grownBy w' none := by
  obtain ⟨l1, l2, l3, l4⟩ := Vl.lens v ht
  obtain ⟨wa, hwa⟩ : ∃ wa, wa = w.alloc (.cells #[.int .i64 v.t, .slice nA v.n.length nc, .slice sA v.s.length sc, .slice lA v.l.length lc] 26) := ⟨_, rfl⟩
  have hg : w.grownBy wa none := by rw [hwa]; exact gb_alloc (gb_refl w none) _
  have hc := C4.box w (.int .i64 v.t) (.slice nA v.n.length nc) (.slice sA v.s.length sc) (.slice lA v.l.length lc) 26
  rw [← hwa] at hc
  have b0 : wa.cell? ⟨w.heap.size, 0, none⟩ = some (.int .i64 v.t) := hc.c0
  have b1 : wa.cell? ⟨w.heap.size, 1, none⟩ = some (.slice nA v.n.length nc) := hc.c1
  have b2 : wa.cell? ⟨w.heap.size, 2, none⟩ = some (.slice sA v.s.length sc) := hc.c2
  have b3 : wa.cell? ⟨w.heap.size, 3, none⟩ = some (.slice lA v.l.length lc) := hc.c3
  have HV := hide (h.gb hg hB)
  have HG := hide hg
  have HWE := hide hwa
  have HSZ := hide hsz
  have HAT := hide (fun w2 : World => rAtom_any v.t (.slice nA v.n.length nc) (.slice sA v.s.length sc) (.slice lA v.l.length lc) w2)
  have HAB := hide (fun w2 : World => rAbs_any v.t w2)
  have ea : rAtom v.t = false := by rw [ht0]; rfl
  have eb : rAbs v.t = 99 := by rw [ht0]; rfl
  have e100 : (v.t == 100) = false := int_beq_f (by omega)
  have e0 : (v.t == 0) = false := int_beq_f (by omega)
  have e98 : (v.t == 98) = false := int_beq_f (by omega)
  have e99 : (v.t == 99) = true := int_beq_t ht0
  rw [ea] at HAT
  rw [eb] at HAB
  clear ht0 ea eb
  have h2 : v.l.length = 2 := by rw [hl]; rfl
  have q2 : ((v.l.length : Int) == 2) = true := int_beq_t (by rw [h2]; rfl)
  have hl0 : (0 : Int) < (v.l.length : Int) := by omega
  have hl1 : (1 : Int) < (v.l.length : Int) := by omega
  have hRV := (h.gb hg hB).l
  rw [hl] at hRV
  obtain ⟨q, o, xA, xc, yA, yc, zA, zc, hlA, hqB, hc4, _⟩ := hRV.at_ (i := 0) (by simp)
  obtain ⟨q', o', xA', xc', yA', yc', zA', zc', hlA', _, hc5, _⟩ := hRV.at_ (i := 1) (by simp)
  subst hlA
  cases hlA'
  obtain ⟨d0, d1, d2, d3⟩ := hc4
  obtain ⟨f0, f1, f2, f3⟩ := hc5
  have d0 : wa.cell? ⟨q, o, none⟩ = some (.int .i64 a.t) := by simpa using d0
  have d1 : wa.cell? ⟨q, o + 1, none⟩ = some (.slice xA a.n.length xc) := by simpa using d1
  have d2 : wa.cell? ⟨q, o + 2, none⟩ = some (.slice yA a.s.length yc) := by simpa using d2
  have d3 : wa.cell? ⟨q, o + 3, none⟩ = some (.slice zA a.l.length zc) := by simpa using d3
  have f0 : wa.cell? ⟨q, o + 4, none⟩ = some (.int .i64 b.t) := by simpa using f0
  have f1 : wa.cell? ⟨q, o + 4 + 1, none⟩ = some (.slice xA' b.n.length xc') := by simpa using f1
  have f2 : wa.cell? ⟨q, o + 4 + 2, none⟩ = some (.slice yA' b.s.length yc') := by simpa using f2
  have f3 : wa.cell? ⟨q, o + 4 + 3, none⟩ = some (.slice zA' b.l.length zc') := by simpa using f3
  have HC0 := hide (fun w2 : World => rCol_any a.t (.slice xA a.n.length xc) (.slice yA a.s.length yc) (.slice zA a.l.length zc) w2)
  have HC1 := hide (fun w2 : World => rCol_any b.t (.slice xA' b.n.length xc') (.slice yA' b.s.length yc') (.slice zA' b.l.length zc') w2)
  have HGWA := hide (fun (w2 : World) (k : wa.grownBy w2 none) => And.intro (And.intro (cell_gb d0 k) (And.intro (cell_gb d1 k) (And.intro (cell_gb d2 k) (cell_gb d3 k)))) (And.intro (cell_gb f0 k) (And.intro (cell_gb f1 k) (And.intro (cell_gb f2 k) (cell_gb f3 k)))))
  clear h2 hl hRV
  rw [k0] at HC0
  have q0 : (a.t == 98) = false := int_beq_f t0
  clear k0 t0
  clear ht hB h hg hwa hc hsz
  go_enter Try.func73, Try.ntmps73
  go_wp2_with fail
  rw [← HWE.out]
  go_wp2_with (first
    | (go_at_call 18; refine (HAT.out _).mono ?_; rintro e w1 ⟨rfl, hg1⟩; have b0 := cell_gb b0 hg1; have b1 := cell_gb b1 hg1; have b2 := cell_gb b2 hg1; have b3 := cell_gb b3 hg1; have HG1 := hide hg1; clear hg1; obtain ⟨⟨d0, d1, d2, d3⟩, f0, f1, f2, f3⟩ := HGWA.out _ HG1.out)
    | (go_at_call 53; refine (HAB.out _).mono ?_; rintro e wq ⟨rfl, rfl⟩)
    | (go_at_call 85; (with_reducible refine (HC0.out _).mono ?_); rintro e w2 ⟨rfl, hg2⟩; have b3 := cell_gb b3 hg2; have HG2 := hide (gb_trans HG1.out hg2 (.inl rfl)); clear hg2; obtain ⟨⟨d0, d1, d2, d3⟩, f0, f1, f2, f3⟩ := HGWA.out _ HG2.out))
  go_ret
  exact ⟨rfl, gb_trans HG.out HG2.out (.inl rfl)⟩
end Go.Proofs.Ytniliccobkhnlaa
