/-
  The document's own plain, type by type: atoms, vectors, lambdas, nothing.
-/
import Derived.Test.YtniliccobkhnlaaWr
namespace Go.Proofs.Ytniliccobkhnlaa
open Go.RowKit
attribute [local go_sem ↓] Go.wp_at_zero Go.wp_at_succ

theorem rAbs_small {t : Int} {n : Int} (h : rAbs t = n) (h1 : 1 ≤ n) (h2 : n ≤ 5) : t ≠ 0 ∧ -5 ≤ t ∧ t ≤ 5 := by
  unfold rAbs at h
  split at h <;> omega
/-- May these numbers be a truth's? -/
def bitsV (l : List Int) : Bool := l.all fun x => decide (x = 0) || decide (x = 1)

set_option maxHeartbeats 8000000 in
set_option maxRecDepth 100000 in
/-- An atom that has not just one element. -/
theorem plain_sum (v : Vl) (w : World) (B : Nat) (nA : Option Addr) (nc : Nat) (sA : Option Addr) (sc : Nat) (lA : Option Addr) (lc : Nat) (ht : v.tot ≤ 1100000) (hsz : ∀ s ∈ v.s, s.size ≤ 1100000) (hB : B ≤ w.heap.size) (h : VB w B v nA nc sA sc lA lc) (hA : rAtom v.t = true) (hsum : v.n.length + v.s.length ≠ 1) :
    Calls Try.prog 73 #[.agg #[.int .i64 v.t, .slice nA v.n.length nc, .slice sA v.s.length sc, .slice lA v.l.length lc]] w fun e w' => e = .returned (.bool (false)) ∧ w.grownBy w' none := by
  obtain ⟨l1, l2, l3, l4⟩ := Vl.lens v ht
  obtain ⟨wa, hwa⟩ : ∃ wa, wa = w.alloc (.cells #[.int .i64 v.t, .slice nA v.n.length nc, .slice sA v.s.length sc, .slice lA v.l.length lc] 26) := ⟨_, rfl⟩
  have hg : w.grownBy wa none := by rw [hwa]; exact gb_alloc (gb_refl w none) _
  have hc := C4.box w (.int .i64 v.t) (.slice nA v.n.length nc) (.slice sA v.s.length sc) (.slice lA v.l.length lc) 26
  rw [← hwa] at hc
  have b0 : wa.cell? ⟨w.heap.size, 0, none⟩ = some (.int .i64 v.t) := hc.c0
  have b1 : wa.cell? ⟨w.heap.size, 1, none⟩ = some (.slice nA v.n.length nc) := hc.c1
  have b2 : wa.cell? ⟨w.heap.size, 2, none⟩ = some (.slice sA v.s.length sc) := hc.c2
  have b3 : wa.cell? ⟨w.heap.size, 3, none⟩ = some (.slice lA v.l.length lc) := hc.c3
  have HV := hide (h.gb hg hB)
  have HG := hide hg
  have HWE := hide hwa
  have HSZ := hide hsz
  have HAT := hide (fun w2 : World => rAtom_any v.t (.slice nA v.n.length nc) (.slice sA v.s.length sc) (.slice lA v.l.length lc) w2)
  have HAB := hide (fun w2 : World => rAbs_any v.t w2)
  rw [hA] at HAT
  have es : ((v.n.length : Int) + (v.s.length : Int) != 1) = true := by simp; omega
  clear hA
  clear ht hB h hg hwa hc hsz
  go_enter Try.func73, Try.ntmps73
  go_wp2_with fail
  rw [← HWE.out]
  go_wp2_with (first
    | (go_at_call 18; refine (HAT.out _).mono ?_; rintro e w1 ⟨rfl, hg1⟩; have b0 := cell_gb b0 hg1; have b1 := cell_gb b1 hg1; have b2 := cell_gb b2 hg1; have b3 := cell_gb b3 hg1; have HG1 := hide hg1; clear hg1)
    | (go_at_call 53; refine (HAB.out _).mono ?_; rintro e wq ⟨rfl, rfl⟩))
  go_ret
  exact ⟨rfl, gb_trans HG.out HG1.out (.inl rfl)⟩

set_option maxHeartbeats 8000000 in
set_option maxRecDepth 100000 in
/-- Numbers. -/
theorem plain_numA (v : Vl) (w : World) (B : Nat) (nA : Option Addr) (nc : Nat) (sA : Option Addr) (sc : Nat) (lA : Option Addr) (lc : Nat) (ht : v.tot ≤ 1100000) (hsz : ∀ s ∈ v.s, s.size ≤ 1100000) (hB : B ≤ w.heap.size) (h : VB w B v nA nc sA sc lA lc) (hA : rAtom v.t = true) (hsum : v.n.length + v.s.length = 1) (hk : rAbs v.t = 2 ∨ rAbs v.t = 4 ∨ rAbs v.t = 5) (hs0 : v.s.length = 0) :
    Calls Try.prog 73 #[.agg #[.int .i64 v.t, .slice nA v.n.length nc, .slice sA v.s.length sc, .slice lA v.l.length lc]] w fun e w' => e = .returned (.bool (true)) ∧ w.grownBy w' none := by
  obtain ⟨l1, l2, l3, l4⟩ := Vl.lens v ht
  obtain ⟨wa, hwa⟩ : ∃ wa, wa = w.alloc (.cells #[.int .i64 v.t, .slice nA v.n.length nc, .slice sA v.s.length sc, .slice lA v.l.length lc] 26) := ⟨_, rfl⟩
  have hg : w.grownBy wa none := by rw [hwa]; exact gb_alloc (gb_refl w none) _
  have hc := C4.box w (.int .i64 v.t) (.slice nA v.n.length nc) (.slice sA v.s.length sc) (.slice lA v.l.length lc) 26
  rw [← hwa] at hc
  have b0 : wa.cell? ⟨w.heap.size, 0, none⟩ = some (.int .i64 v.t) := hc.c0
  have b1 : wa.cell? ⟨w.heap.size, 1, none⟩ = some (.slice nA v.n.length nc) := hc.c1
  have b2 : wa.cell? ⟨w.heap.size, 2, none⟩ = some (.slice sA v.s.length sc) := hc.c2
  have b3 : wa.cell? ⟨w.heap.size, 3, none⟩ = some (.slice lA v.l.length lc) := hc.c3
  have HV := hide (h.gb hg hB)
  have HG := hide hg
  have HWE := hide hwa
  have HSZ := hide hsz
  have HAT := hide (fun w2 : World => rAtom_any v.t (.slice nA v.n.length nc) (.slice sA v.s.length sc) (.slice lA v.l.length lc) w2)
  have HAB := hide (fun w2 : World => rAbs_any v.t w2)
  rw [hA] at HAT
  have es : ((v.n.length : Int) + (v.s.length : Int) != 1) = false := by simp; omega
  clear hA
  have hr : v.t ≠ 0 ∧ -5 ≤ v.t ∧ v.t ≤ 5 := by rcases hk with h | h | h <;> exact rAbs_small h (by omega) (by omega)
  have k1 : (rAbs v.t == 1) = false := int_beq_f (by omega)
  have e100 : (v.t == 100) = false := int_beq_f (by omega)
  have e0 : (v.t == 0) = false := int_beq_f (by omega)
  have e98 : (v.t == 98) = false := int_beq_f (by omega)
  have e99 : (v.t == 99) = false := int_beq_f (by omega)
  have hs1 : ¬ (0 : Int) < (v.s.length : Int) := by omega
  have HS0 := hide hs0
  clear hk hr hs0
  generalize rAbs v.t = ab at *
  clear ht hB h hg hwa hc hsz
  go_enter Try.func73, Try.ntmps73
  go_wp2_with fail
  rw [← HWE.out]
  go_wp2_with (first
    | (go_at_call 18; refine (HAT.out _).mono ?_; rintro e w1 ⟨rfl, hg1⟩; have b0 := cell_gb b0 hg1; have b1 := cell_gb b1 hg1; have b2 := cell_gb b2 hg1; have b3 := cell_gb b3 hg1; have HG1 := hide hg1; clear hg1)
    | (go_at_call 53; refine (HAB.out _).mono ?_; rintro e wq ⟨rfl, rfl⟩))
  go_loopw [4] (fun i wr => i = .int .i64 0 ∧ w1 = wr) (fun _ _ => 0)
  case atStart => exact ⟨rfl, rfl⟩
  case round =>
    obtain ⟨rfl, rfl⟩ := hrel
    go_wp2_with fail
    go_ret
    exact ⟨rfl, gb_trans HG.out HG1.out (.inl rfl)⟩

set_option maxHeartbeats 8000000 in
set_option maxRecDepth 100000 in
/-- Numbers. -/
theorem plain_numV (v : Vl) (w : World) (B : Nat) (nA : Option Addr) (nc : Nat) (sA : Option Addr) (sc : Nat) (lA : Option Addr) (lc : Nat) (ht : v.tot ≤ 1100000) (hsz : ∀ s ∈ v.s, s.size ≤ 1100000) (hB : B ≤ w.heap.size) (h : VB w B v nA nc sA sc lA lc) (hA : rAtom v.t = false) (hk : rAbs v.t = 2 ∨ rAbs v.t = 4 ∨ rAbs v.t = 5) (hs0 : v.s.length = 0) :
    Calls Try.prog 73 #[.agg #[.int .i64 v.t, .slice nA v.n.length nc, .slice sA v.s.length sc, .slice lA v.l.length lc]] w fun e w' => e = .returned (.bool (true)) ∧ w.grownBy w' none := by
  obtain ⟨l1, l2, l3, l4⟩ := Vl.lens v ht
  obtain ⟨wa, hwa⟩ : ∃ wa, wa = w.alloc (.cells #[.int .i64 v.t, .slice nA v.n.length nc, .slice sA v.s.length sc, .slice lA v.l.length lc] 26) := ⟨_, rfl⟩
  have hg : w.grownBy wa none := by rw [hwa]; exact gb_alloc (gb_refl w none) _
  have hc := C4.box w (.int .i64 v.t) (.slice nA v.n.length nc) (.slice sA v.s.length sc) (.slice lA v.l.length lc) 26
  rw [← hwa] at hc
  have b0 : wa.cell? ⟨w.heap.size, 0, none⟩ = some (.int .i64 v.t) := hc.c0
  have b1 : wa.cell? ⟨w.heap.size, 1, none⟩ = some (.slice nA v.n.length nc) := hc.c1
  have b2 : wa.cell? ⟨w.heap.size, 2, none⟩ = some (.slice sA v.s.length sc) := hc.c2
  have b3 : wa.cell? ⟨w.heap.size, 3, none⟩ = some (.slice lA v.l.length lc) := hc.c3
  have HV := hide (h.gb hg hB)
  have HG := hide hg
  have HWE := hide hwa
  have HSZ := hide hsz
  have HAT := hide (fun w2 : World => rAtom_any v.t (.slice nA v.n.length nc) (.slice sA v.s.length sc) (.slice lA v.l.length lc) w2)
  have HAB := hide (fun w2 : World => rAbs_any v.t w2)
  rw [hA] at HAT
  clear hA
  have hr : v.t ≠ 0 ∧ -5 ≤ v.t ∧ v.t ≤ 5 := by rcases hk with h | h | h <;> exact rAbs_small h (by omega) (by omega)
  have k1 : (rAbs v.t == 1) = false := int_beq_f (by omega)
  have e100 : (v.t == 100) = false := int_beq_f (by omega)
  have e0 : (v.t == 0) = false := int_beq_f (by omega)
  have e98 : (v.t == 98) = false := int_beq_f (by omega)
  have e99 : (v.t == 99) = false := int_beq_f (by omega)
  have hs1 : ¬ (0 : Int) < (v.s.length : Int) := by omega
  have HS0 := hide hs0
  clear hk hr hs0
  generalize rAbs v.t = ab at *
  clear ht hB h hg hwa hc hsz
  go_enter Try.func73, Try.ntmps73
  go_wp2_with fail
  rw [← HWE.out]
  go_wp2_with (first
    | (go_at_call 18; refine (HAT.out _).mono ?_; rintro e w1 ⟨rfl, hg1⟩; have b0 := cell_gb b0 hg1; have b1 := cell_gb b1 hg1; have b2 := cell_gb b2 hg1; have b3 := cell_gb b3 hg1; have HG1 := hide hg1; clear hg1)
    | (go_at_call 53; refine (HAB.out _).mono ?_; rintro e wq ⟨rfl, rfl⟩))
  go_loopw [4] (fun i wr => i = .int .i64 0 ∧ w1 = wr) (fun _ _ => 0)
  case atStart => exact ⟨rfl, rfl⟩
  case round =>
    obtain ⟨rfl, rfl⟩ := hrel
    go_wp2_with fail
    go_ret
    exact ⟨rfl, gb_trans HG.out HG1.out (.inl rfl)⟩
end Go.Proofs.Ytniliccobkhnlaa
