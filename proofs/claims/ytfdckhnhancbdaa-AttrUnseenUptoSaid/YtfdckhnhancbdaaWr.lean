/-
  The document's own plain, type by type.
-/
import Derived.Test.YtfdckhnhancbdaaWk
import Derived.Test.YtfdckhnhancbdaaWq
namespace Go.Proofs.Ytfdckhnhancbdaa
open Go.RowKit
attribute [local go_sem ↓] Go.wp_at_zero Go.wp_at_succ

set_option maxHeartbeats 8000000 in
set_option maxRecDepth 100000 in
/-- A list. -/
theorem plain_list (v : Vl) (w : World) (B : Nat) (nA : Option Addr) (nc : Nat) (sA : Option Addr) (sc : Nat) (lA : Option Addr) (lc : Nat) (ht : v.tot ≤ 1100000) (hsz : ∀ s ∈ v.s, s.size ≤ 1100000) (hB : B ≤ w.heap.size) (h : VB w B v nA nc sA sc lA lc) (ht0 : v.t = 0) :
    Calls Try.prog 75 #[.agg #[.int .i64 v.t, .slice nA v.n.length nc, .slice sA v.s.length sc, .slice lA v.l.length lc]] w fun e w' => e = .returned (.bool (listV v)) ∧ w.grownBy w' none := by
  obtain ⟨l1, l2, l3, l4⟩ := Vl.lens v ht
  obtain ⟨wa, hwa⟩ : ∃ wa, wa = w.alloc (.cells #[.int .i64 v.t, .slice nA v.n.length nc, .slice sA v.s.length sc, .slice lA v.l.length lc] 26) := ⟨_, rfl⟩
  have hg : w.grownBy wa none := by rw [hwa]; exact gb_alloc (gb_refl w none) _
  have hc := C4.box w (.int .i64 v.t) (.slice nA v.n.length nc) (.slice sA v.s.length sc) (.slice lA v.l.length lc) 26
  rw [← hwa] at hc
  have b0 : wa.cell? ⟨w.heap.size, 0, none⟩ = some (.int .i64 v.t) := hc.c0
  have b1 : wa.cell? ⟨w.heap.size, 1, none⟩ = some (.slice nA v.n.length nc) := hc.c1
  have b2 : wa.cell? ⟨w.heap.size, 2, none⟩ = some (.slice sA v.s.length sc) := hc.c2
  have b3 : wa.cell? ⟨w.heap.size, 3, none⟩ = some (.slice lA v.l.length lc) := hc.c3
  have hbw := Nat.le_trans hB hg.size
  have HV := hide (h.gb hg hB)
  have HBW := hide hbw
  have HG := hide hg
  have HC := hide hc
  have HWE := hide hwa
  have HSZ := hide hsz
  have HTT := hide ht
  have HAT := hide (fun w2 : World => rAtom_any v.t (.slice nA v.n.length nc) (.slice sA v.s.length sc) (.slice lA v.l.length lc) w2)
  have HAB := hide (fun w2 : World => rAbs_any v.t w2)
  have e100 : (v.t == 100) = false := int_beq_f (by omega)
  have e0 : (v.t == 0) = true := int_beq_t ht0
  have ea : rAtom v.t = false := by rw [ht0]; rfl
  have eb : rAbs v.t = 0 := by rw [ht0]; rfl
  have HL := hide (fun w2 (k : wa.grownBy w2 none) => rList_any v w2 B nA nc sA sc lA lc ht (Nat.le_trans hbw k.size) ((h.gb hg hB).gb k hbw))
  rw [ea] at HAT
  rw [eb] at HAB
  clear ea eb ht0
  clear ht hB h hg hwa hc hbw hsz
  go_enter Try.func75, Try.ntmps75
  go_wp2_with fail
  rw [← HWE.out]
  go_wp2_with (first
    | (go_at_call 78; refine (HAT.out _).mono ?_; rintro e w1 ⟨rfl, hg1⟩; have b0 := cell_gb b0 hg1; have b1 := cell_gb b1 hg1; have b2 := cell_gb b2 hg1; have b3 := cell_gb b3 hg1; have HG1 := hide hg1; clear hg1)
    | (go_at_call 59; refine (HAB.out _).mono ?_; rintro e wq ⟨rfl, rfl⟩)
    | (go_at_call 86; refine (HL.out _ HG1.out).mono ?_; rintro e w2 ⟨rfl, hg2⟩; have HG2 := hide hg2; clear hg2))
  go_ret
  exact ⟨rfl, gb_trans HG.out (gb_trans HG1.out HG2.out (.inl rfl)) (.inl rfl)⟩

set_option maxHeartbeats 8000000 in
set_option maxRecDepth 100000 in
/-- A table. -/
theorem plain_table (v : Vl) (w : World) (B : Nat) (nA : Option Addr) (nc : Nat) (sA : Option Addr) (sc : Nat) (lA : Option Addr) (lc : Nat) (ht : v.tot ≤ 1100000) (hsz : ∀ s ∈ v.s, s.size ≤ 1100000) (hB : B ≤ w.heap.size) (h : VB w B v nA nc sA sc lA lc) (ht0 : v.t = 98) :
    Calls Try.prog 75 #[.agg #[.int .i64 v.t, .slice nA v.n.length nc, .slice sA v.s.length sc, .slice lA v.l.length lc]] w fun e w' => e = .returned (.bool (tabV v)) ∧ w.grownBy w' none := by
  obtain ⟨l1, l2, l3, l4⟩ := Vl.lens v ht
  obtain ⟨wa, hwa⟩ : ∃ wa, wa = w.alloc (.cells #[.int .i64 v.t, .slice nA v.n.length nc, .slice sA v.s.length sc, .slice lA v.l.length lc] 26) := ⟨_, rfl⟩
  have hg : w.grownBy wa none := by rw [hwa]; exact gb_alloc (gb_refl w none) _
  have hc := C4.box w (.int .i64 v.t) (.slice nA v.n.length nc) (.slice sA v.s.length sc) (.slice lA v.l.length lc) 26
  rw [← hwa] at hc
  have b0 : wa.cell? ⟨w.heap.size, 0, none⟩ = some (.int .i64 v.t) := hc.c0
  have b1 : wa.cell? ⟨w.heap.size, 1, none⟩ = some (.slice nA v.n.length nc) := hc.c1
  have b2 : wa.cell? ⟨w.heap.size, 2, none⟩ = some (.slice sA v.s.length sc) := hc.c2
  have b3 : wa.cell? ⟨w.heap.size, 3, none⟩ = some (.slice lA v.l.length lc) := hc.c3
  have hbw := Nat.le_trans hB hg.size
  have HV := hide (h.gb hg hB)
  have HBW := hide hbw
  have HG := hide hg
  have HC := hide hc
  have HWE := hide hwa
  have HSZ := hide hsz
  have HTT := hide ht
  have HAT := hide (fun w2 : World => rAtom_any v.t (.slice nA v.n.length nc) (.slice sA v.s.length sc) (.slice lA v.l.length lc) w2)
  have HAB := hide (fun w2 : World => rAbs_any v.t w2)
  have e100 : (v.t == 100) = false := int_beq_f (by omega)
  have e0 : (v.t == 0) = false := int_beq_f (by omega)
  have e98 : (v.t == 98) = true := int_beq_t ht0
  have ea : rAtom v.t = false := by rw [ht0]; rfl
  have eb : rAbs v.t = 98 := by rw [ht0]; rfl
  have HL := hide (fun w2 (k : wa.grownBy w2 none) => rTable_any v w2 B nA nc sA sc lA lc ht hsz (Nat.le_trans hbw k.size) ((h.gb hg hB).gb k hbw))
  rw [ea] at HAT
  rw [eb] at HAB
  clear ea eb ht0
  clear ht hB h hg hwa hc hbw hsz
  go_enter Try.func75, Try.ntmps75
  go_wp2_with fail
  rw [← HWE.out]
  go_wp2_with (first
    | (go_at_call 78; refine (HAT.out _).mono ?_; rintro e w1 ⟨rfl, hg1⟩; have b0 := cell_gb b0 hg1; have b1 := cell_gb b1 hg1; have b2 := cell_gb b2 hg1; have b3 := cell_gb b3 hg1; have HG1 := hide hg1; clear hg1)
    | (go_at_call 59; refine (HAB.out _).mono ?_; rintro e wq ⟨rfl, rfl⟩)
    | (go_at_call 87; refine (HL.out _ HG1.out).mono ?_; rintro e w2 ⟨rfl, hg2⟩; have HG2 := hide hg2; clear hg2))
  go_ret
  exact ⟨rfl, gb_trans HG.out (gb_trans HG1.out HG2.out (.inl rfl)) (.inl rfl)⟩
end Go.Proofs.Ytfdckhnhancbdaa
