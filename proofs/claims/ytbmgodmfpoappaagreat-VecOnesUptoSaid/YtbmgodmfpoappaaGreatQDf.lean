/-
  vec.ruleOf of two ints; vec.kind.
-/
import Derived.Test.YtbmgodmfpoappaaGreatQDe
import Derived.Test.YtbmgodmfpoappaaGreatQKe
namespace Go.Proofs.YtbmgodmfpoappaaGreat
open Go.RowKit
attribute [local go_sem ↓] Go.wp_at_zero Go.wp_at_succ
def OpC (w : World) (p : Nat) (f : Int → Int → Option Int) : Prop := ∀ w2, w.grownBy w2 none → Calls Tryz.prog 117 #[.agg #[.int .i64 2, .int .i64 2], .pointer (some ⟨p, 0, none⟩)] w2 (StrR f w2)
theorem opC_add {w : World} {p : Nat} (h : w.cell? ⟨p, 0, none⟩ = some (.func (.func 88) #[] #[])) : OpC w p (strictF sumF) := fun w2 hg => strict_add p w2 (cell_gb h hg)
theorem opC_divide {w : World} {p : Nat} (h : w.cell? ⟨p, 0, none⟩ = some (.func (.func 91) #[] #[])) : OpC w p (strictF quoF) := fun w2 hg => strict_divide p w2 (cell_gb h hg)
theorem OpC.gb {w w' : World} {p : Nat} {f : Int → Int → Option Int} (h : OpC w p f) (hg : w.grownBy w' none) : OpC w' p f := fun w2 h2 => h w2 (gb_trans hg h2 (.inl rfl))
theorem StrF.after {n n' : Nat} {w w' : World} {g : Nat} {f : Int → Int → Option Int} (h : StrF n w g f) (hn : n' ≤ n) (hs : w.heap.size ≤ w'.heap.size) (hk : ∀ i, n ≤ i → i < w.heap.size → w'.heap[i]? = w.heap[i]?) : StrF n' w' g f :=
 fun w2 h2 => h w2 fun i hi hlt => by
  have e := hk i hi hlt
  rcases h2 i (Nat.le_trans hn hi) (Nat.lt_of_lt_of_le hlt hs) with ⟨o, ho, hz⟩ | e2
  ·exact .inl ⟨o, e ▸ ho, hz⟩
  ·exact .inr (e2.trans e)
theorem StrF.gb {n : Nat} {w w' : World} {g : Nat} {f : Int → Int → Option Int} (h : StrF n w g f) (hg : w.grownBy w' none) : StrF n w' g f :=
 h.after (Nat.le_refl _) hg.size fun i _ hlt => hg.block i hlt (by simp)
set_option maxHeartbeats 2000000 in
set_option maxRecDepth 100000 in
theorem ruleOf_ints {f : Int → Int → Option Int} (p : Nat) (w : World) (C : OpC w p f) : Calls Tryz.prog 51 #[.func (.func 117) #[] #[.pointer (some ⟨p, 0, none⟩)], .agg #[.int .i64 2, .int .i64 2]] w (StrR f w) := by
 obtain ⟨wa, hwa⟩ : ∃ wa, wa = (w.alloc (.cells #[.int .i64 2, .int .i64 2] 77)).alloc (.cells #[.int .i64 0, Value.nilFunc, Value.nilFunc] 73) := ⟨_, rfl⟩
 obtain ⟨hp1, hr, hg, hs⟩ := PairB.mk_ w
 rw [← hwa] at hp1 hr hg hs
 have HR := hide hr
 have HG := hide hg
 have HS := hide hs
 have HWE := hide hwa
 have x0 : wa.cell? ⟨w.heap.size, 0, none⟩ = some (.int .i64 2) := by rw [blk_cell hp1]; rfl
 have x1 : wa.cell? ⟨w.heap.size, 1, none⟩ = some (.int .i64 2) := by rw [blk_cell hp1]; rfl
 have x0a := x0
 have x1a := x1
 rw [hwa] at x0a x1a
 have HC := hide C
 clear hp1 hr hg hwa hs C
 go_enter Tryz.func51, Tryz.ntmps51
 go_wp2_with fail
 rw [← HWE.out]
 go_wp2_with (go_at_call 117; refine (HC.out wa HG.out).mono ?_; rintro e w1 ⟨g, rfl, hS, hg1⟩; have HF := hide hS; have HG1 := hide hg1; have hgW := gb_alloc hg1 (.cells #[.int .i64 2, .func (.func 118) #[] #[.pointer (some ⟨g, 0, none⟩)], Value.nilFunc] 73); have HGW := hide (gb_trans HG.out hgW (.inl rfl)); have hr2 := (hgW.block _ (blk_lt HR.out) (by simp)).trans HR.out; have HR2 := hide hr2; have z0 := blk_frozen hr2 0; have z1 := blk_frozen hr2 1; have z2 := blk_frozen hr2 2; have y0 : (w1.alloc (.cells #[.int .i64 2, .func (.func 118) #[] #[.pointer (some ⟨g, 0, none⟩)], Value.nilFunc] 73)).cell? ⟨w.heap.size + 1, 0, none⟩ = some (.int .i64 0) := (by { rw [blk_cell hr2]; rfl }); have y1 : (w1.alloc (.cells #[.int .i64 2, .func (.func 118) #[] #[.pointer (some ⟨g, 0, none⟩)], Value.nilFunc] 73)).cell? ⟨w.heap.size + 1, 1, none⟩ = some Value.nilFunc := (by { rw [blk_cell hr2]; rfl }); have y2 : (w1.alloc (.cells #[.int .i64 2, .func (.func 118) #[] #[.pointer (some ⟨g, 0, none⟩)], Value.nilFunc] 73)).cell? ⟨w.heap.size + 1, 2, none⟩ = some Value.nilFunc := (by { rw [blk_cell hr2]; rfl }); clear hS hg1 hgW hr2)
 have hb := rule_put HR2.out (.func (.func 118) #[] #[.pointer (some ⟨g, 0, none⟩)])
 have m0 : ((((w1.alloc (.cells #[.int .i64 2, .func (.func 118) #[] #[.pointer (some ⟨g, 0, none⟩)], Value.nilFunc] 73)).setCell ⟨w.heap.size + 1, 0, none⟩ (.int .i64 2)).setCell ⟨w.heap.size + 1, 1, none⟩ (.func (.func 118) #[] #[.pointer (some ⟨g, 0, none⟩)])).setCell ⟨w.heap.size + 1, 2, none⟩ Value.nilFunc).cell? ⟨w.heap.size + 1, 0, none⟩ = some (.int .i64 2) := by rw [blk_cell hb]; rfl
 have m1 : ((((w1.alloc (.cells #[.int .i64 2, .func (.func 118) #[] #[.pointer (some ⟨g, 0, none⟩)], Value.nilFunc] 73)).setCell ⟨w.heap.size + 1, 0, none⟩ (.int .i64 2)).setCell ⟨w.heap.size + 1, 1, none⟩ (.func (.func 118) #[] #[.pointer (some ⟨g, 0, none⟩)])).setCell ⟨w.heap.size + 1, 2, none⟩ Value.nilFunc).cell? ⟨w.heap.size + 1, 1, none⟩ = some (.func (.func 118) #[] #[.pointer (some ⟨g, 0, none⟩)]) := by rw [blk_cell hb]; rfl
 have m2 : ((((w1.alloc (.cells #[.int .i64 2, .func (.func 118) #[] #[.pointer (some ⟨g, 0, none⟩)], Value.nilFunc] 73)).setCell ⟨w.heap.size + 1, 0, none⟩ (.int .i64 2)).setCell ⟨w.heap.size + 1, 1, none⟩ (.func (.func 118) #[] #[.pointer (some ⟨g, 0, none⟩)])).setCell ⟨w.heap.size + 1, 2, none⟩ Value.nilFunc).cell? ⟨w.heap.size + 1, 2, none⟩ = some Value.nilFunc := by rw [blk_cell hb]; rfl
 refine bodyPost_ret (v := .tuple #[.agg #[.int .i64 2, .func (.func 118) #[] #[.pointer (some ⟨g, 0, none⟩)], Value.nilFunc], .bool true]) (by simp [results, Tryz.results51, go_sem, m0, m1, m2]) rfl ?_
 refine ⟨g, rfl, HF.out.after (by have := HS.out; omega) (by simp [World.setCell]) ?_, rule_gb (w0 := w) HGW.out (Nat.le_succ _) (.func (.func 118) #[] #[.pointer (some ⟨g, 0, none⟩)])⟩
 intro i hi hlt
 have hne : i ≠ w.heap.size + 1 := by have := HS.out; omega
 have k : ∀ (w : World) (g j : Nat) (u : Value), i ≠ g → (w.setCell ⟨g, j, none⟩ u).heap[i]? = w.heap[i]? := fun w g j u hne => Below.heap_setCell w ⟨g, j, none⟩ u i (fun e => hne e)
 rw [k _ _ _ _ hne, k _ _ _ _ hne, k _ _ _ _ hne]
 exact Below.heap_alloc w1 _ i hlt
def kindO (t : Int) (s n : Nat) : Int := if t = 3 ∨ (t = -3 ∧ s = 1) then 3 else if hasN t = true ∧ (0 < t ∨ n = 1) then max t (-t) else 0
set_option maxHeartbeats 2000000 in
set_option maxRecDepth 100000 in
theorem kind_any (t : Int) (nA : Option Addr) (nl nc : Nat) (sA : Option Addr) (sl sc : Nat) (c3 : Value) (w : World) :
  Calls Tryz.prog 27 #[.agg #[.int .i64 t, .slice nA nl nc, .slice sA sl sc, c3]] w fun e w' => e = .returned (.int .i64 (kindO t sl nl)) ∧ w.grownBy w' none := by
 obtain ⟨wa, hwa⟩ : ∃ wa, wa = w.alloc (.cells #[.int .i64 t, .slice nA nl nc, .slice sA sl sc, c3] 26) := ⟨_, rfl⟩
 have hr : wa.heap[w.heap.size]? = some (.cells #[.int .i64 t, .slice nA nl nc, .slice sA sl sc, c3] 26 (0, 0)) := by rw [hwa]; exact heap_alloc_new w _
 have hg : w.grownBy wa none := by rw [hwa]; exact gb_alloc (gb_refl w none) _
 have b0 : wa.cell? ⟨w.heap.size, 0, none⟩ = some (.int .i64 t) := by rw [blk_cell hr]; rfl
 have b1 : wa.cell? ⟨w.heap.size, 1, none⟩ = some (.slice nA nl nc) := by rw [blk_cell hr]; rfl
 have b2 : wa.cell? ⟨w.heap.size, 2, none⟩ = some (.slice sA sl sc) := by rw [blk_cell hr]; rfl
 have b3 : wa.cell? ⟨w.heap.size, 3, none⟩ = some c3 := by rw [blk_cell hr]; rfl
 have HG := hide hg
 have HW := hide hwa
 clear hr hg hwa
 by_cases h3 : t = 3
 ·have HK := hide (show kindO t sl nl = 3 by unfold kindO; rw [if_pos (.inl h3)])
  have e1 : (t == 3) = true := by simp [h3]
  clear h3
  go_enter Tryz.func27, Tryz.ntmps27
  go_wp2_with fail
  rw [← HW.out]
  exact bodyPost_ret (v := .int .i64 (3)) (by simp [results, Tryz.results27, go_sem]) rfl ⟨by rw [HK.out], HG.out⟩
 by_cases h4 : t = -3
 ·by_cases hs : (sl : Int) = 1
  ·have HK := hide (show kindO t sl nl = 3 by unfold kindO; rw [if_pos (.inr ⟨h4, by omega⟩)])
   have e1 := int_beq_f h3
   have e2 : (t == -3) = true := by simp [h4]
   have e3 : ((sl : Int) == 1) = true := by simp [hs]
   clear h3 h4 hs
   go_enter Tryz.func27, Tryz.ntmps27
   go_wp2_with fail
   rw [← HW.out]
   exact bodyPost_ret (v := .int .i64 (3)) (by simp [results, Tryz.results27, go_sem]) rfl ⟨by rw [HK.out], HG.out⟩
  ·have HK := hide (show kindO t sl nl = 0 by unfold kindO; rw [if_neg (by rintro (h | h); exact h3 h; exact hs (by omega)), if_neg (by rw [h4]; simp [hasN])])
   have e1 := int_beq_f h3
   have e2 : (t == -3) = true := by simp [h4]
   have e3 := int_beq_f hs
   have e4 : hasN t = false := by rw [h4]; rfl
   clear h3 h4 hs
   go_enter Tryz.func27, Tryz.ntmps27
   go_wp2_with fail
   rw [← HW.out]
   go_wp2_with (go_at_call 34; refine (vNum_any _ _ _ _ _).mono ?_; rintro e w1 ⟨rfl, hg1⟩; have HG1 := hide hg1; have b0 := cell_gb b0 hg1; have b1 := cell_gb b1 hg1; have b2 := cell_gb b2 hg1; clear hg1)
   exact bodyPost_ret (v := .int .i64 (0)) (by simp [results, Tryz.results27, go_sem]) rfl ⟨by rw [HK.out], (gb_trans HG.out HG1.out (.inl rfl))⟩
 have e1 := int_beq_f h3
 have e2 := int_beq_f h4
 have hk0 : kindO t sl nl = if hasN t = true ∧ (0 < t ∨ nl = 1) then max t (-t) else 0 := by unfold kindO; rw [if_neg (by rintro (h | h); exact h3 h; exact h4 h.1)]
 cases e4 : hasN t
 ·have HK := hide (show kindO t sl nl = 0 by rw [hk0, e4]; rfl)
  clear h3 h4 hk0
  go_enter Tryz.func27, Tryz.ntmps27
  go_wp2_with fail
  rw [← HW.out]
  go_wp2_with (go_at_call 34; refine (vNum_any _ _ _ _ _).mono ?_; rintro e w1 ⟨rfl, hg1⟩; have HG1 := hide hg1; have b0 := cell_gb b0 hg1; have b1 := cell_gb b1 hg1; have b2 := cell_gb b2 hg1; clear hg1)
  exact bodyPost_ret (v := .int .i64 (0)) (by simp [results, Tryz.results27, go_sem]) rfl ⟨by rw [HK.out], (gb_trans HG.out HG1.out (.inl rfl))⟩
 have hlim : -5 ≤ t ∧ t ≤ 5 := by
  simp only [hasN, Bool.or_eq_true, beq_iff_eq] at e4
  omega
 have hw : IntKind.i64.wrap (-t) = -t := by rw [IntKind.wrap_i64]; omega
 by_cases h0 : 0 < t
 ·have HK := hide (show kindO t sl nl = t by rw [hk0, if_pos ⟨e4, .inl h0⟩]; omega)
  have hm : max t (-t) = t := by omega
  have hm1 : ¬ t < -t := by omega
  have hm2 : -t ≤ t := by omega
  clear h3 h4 hk0 hlim
  go_enter Tryz.func27, Tryz.ntmps27
  go_wp2_with fail
  rw [← HW.out]
  go_wp2_with (go_at_call 34; refine (vNum_any _ _ _ _ _).mono ?_; rintro e w1 ⟨rfl, hg1⟩; have HG1 := hide hg1; have b0 := cell_gb b0 hg1; have b1 := cell_gb b1 hg1; have b2 := cell_gb b2 hg1; clear hg1)
  exact bodyPost_ret (v := .int .i64 (t)) (by simp [results, Tryz.results27, go_sem]) rfl ⟨by rw [HK.out], (gb_trans HG.out HG1.out (.inl rfl))⟩
 by_cases h1 : (nl : Int) = 1
 ·have HK := hide (show kindO t sl nl = -t by rw [hk0, if_pos ⟨e4, .inr (by omega)⟩]; omega)
  have hm : max t (-t) = -t := by omega
  have hm1 : t < -t := by simp only [hasN, Bool.or_eq_true, beq_iff_eq] at e4; omega
  have hm2 : ¬ -t ≤ t := by omega
  have e5 : ((nl : Int) == 1) = true := by simp [h1]
  have h0' := decide_eq_false h0
  clear h3 h4 hk0 hlim h1
  go_enter Tryz.func27, Tryz.ntmps27
  go_wp2_with fail
  rw [← HW.out]
  go_wp2_with (go_at_call 34; refine (vNum_any _ _ _ _ _).mono ?_; rintro e w1 ⟨rfl, hg1⟩; have HG1 := hide hg1; have b0 := cell_gb b0 hg1; have b1 := cell_gb b1 hg1; have b2 := cell_gb b2 hg1; clear hg1)
  exact bodyPost_ret (v := .int .i64 (-t)) (by simp [results, Tryz.results27, go_sem]) rfl ⟨by rw [HK.out], (gb_trans HG.out HG1.out (.inl rfl))⟩
 ·have HK := hide (show kindO t sl nl = 0 by rw [hk0, if_neg (by rintro ⟨_, h | h⟩; exact h0 h; exact h1 (by omega))])
  have e5 := int_beq_f h1
  have h0' := decide_eq_false h0
  clear h3 h4 hk0 hlim h1
  go_enter Tryz.func27, Tryz.ntmps27
  go_wp2_with fail
  rw [← HW.out]
  go_wp2_with (go_at_call 34; refine (vNum_any _ _ _ _ _).mono ?_; rintro e w1 ⟨rfl, hg1⟩; have HG1 := hide hg1; have b0 := cell_gb b0 hg1; have b1 := cell_gb b1 hg1; have b2 := cell_gb b2 hg1; clear hg1)
  exact bodyPost_ret (v := .int .i64 (0)) (by simp [results, Tryz.results27, go_sem]) rfl ⟨by rw [HK.out], (gb_trans HG.out HG1.out (.inl rfl))⟩
end Go.Proofs.YtbmgodmfpoappaaGreat
