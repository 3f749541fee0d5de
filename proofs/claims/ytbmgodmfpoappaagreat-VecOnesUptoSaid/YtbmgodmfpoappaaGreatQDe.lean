/-
  vec.operations, vec.ruleOf of two ints.
-/
import Derived.Test.YtbmgodmfpoappaaGreatQKc
import Derived.Deep.WholeRow
namespace Go.Proofs.YtbmgodmfpoappaaGreat
open Go.RowKit
attribute [local go_sem ↓] Go.wp_at_zero Go.wp_at_succ
theorem storeCells_row {P : Program} {w : World} {g : Nat} {t : TypeId} {c c' : Array Value} (hb : w.heap[g]? = some (.cells c t (0, 0))) (hi : (P.info? t).map (·.size) = some c'.size) (ho : c.size = c'.size) (h1 : c'.all (·.oneCell') = true) :
  (storeCells ⟨g, 0, none⟩ c'.toList 0).run P w = .ok () (w.setRow g c') := by
 have := run_storeVar_row (P := P) w g t t c c' hb hi ho h1
 cases hq : P.info? t with
 | none => simp [hq] at hi
 | some i =>
  have hs : c'.size = i.size := by simp [hq] at hi; omega
  simpa [storeVar, sizeOf, typeInfo, hq, Value.cells, hs] using this
theorem heap_setRow (w : World) (g : Nat) (c : Array Value) (i : Nat) (h : i ≠ g) : (w.setRow g c).heap[i]? = w.heap[i]? := by
 simp only [World.setRow]
 rw [Array.getElem?_modify]
 have h' : ¬ g = i := fun e => h e.symm
 simp [h']
theorem gb_setRow {a w : World} (h : a.grownBy w none) (g : Nat) (c : Array Value) (hg : a.heap.size ≤ g) : a.grownBy (w.setRow g c) none :=
 ⟨h.os, h.tape, h.output, by simpa [World.setRow] using h.size, fun i hi hne => (heap_setRow w g c i (by omega)).trans (h.block i hi hne)⟩
set_option maxHeartbeats 1000000 in
theorem strict_mk (fn : Fn) (w : World) : Calls Tryz.prog 87 #[.func fn #[] #[]] w fun e w' => ∃ p, e = .returned (.func (.func 117) #[] #[.pointer (some ⟨p, 0, none⟩)]) ∧ w'.cell? ⟨p, 0, none⟩ = some (.func fn #[] #[]) ∧ w.heap.size ≤ p ∧ w.grownBy w' none := by
 have hb : (w.alloc (.cells #[.func fn #[] #[]] 66)).cell? ⟨w.heap.size, 0, none⟩ = some (.func fn #[] #[]) := by rw [blk_cell (heap_alloc_new w _)]; rfl
 have HB := hide hb
 clear hb
 go_enter Tryz.func87, Tryz.ntmps87
 go_wp2_with fail
 go_ret
 exact ⟨w.heap.size, rfl, HB.out, Nat.le_refl _, gb_alloc (gb_refl w none) _⟩
set_option maxHeartbeats 1000000 in
theorem choose_mk (fn : Fn) (w : World) : Calls Tryz.prog 93 #[.func fn #[] #[]] w fun e w' => ∃ p, e = .returned (.func (.func 125) #[] #[.pointer (some ⟨p, 0, none⟩)]) ∧ w'.cell? ⟨p, 0, none⟩ = some (.func fn #[] #[]) ∧ w.heap.size ≤ p ∧ w.grownBy w' none := by
 have hb : (w.alloc (.cells #[.func fn #[] #[]] 70)).cell? ⟨w.heap.size, 0, none⟩ = some (.func fn #[] #[]) := by rw [blk_cell (heap_alloc_new w _)]; rfl
 have HB := hide hb
 clear hb
 go_enter Tryz.func93, Tryz.ntmps93
 go_wp2_with fail
 go_ret
 exact ⟨w.heap.size, rfl, HB.out, Nat.le_refl _, gb_alloc (gb_refl w none) _⟩
set_option maxHeartbeats 1000000 in
theorem compare_mk (fn : Fn) (w : World) : Calls Tryz.prog 96 #[.func fn #[] #[]] w fun e w' => ∃ p, e = .returned (.func (.func 126) #[] #[.pointer (some ⟨p, 0, none⟩)]) ∧ w'.cell? ⟨p, 0, none⟩ = some (.func fn #[] #[]) ∧ w.heap.size ≤ p ∧ w.grownBy w' none := by
 have hb : (w.alloc (.cells #[.func fn #[] #[]] 87)).cell? ⟨w.heap.size, 0, none⟩ = some (.func fn #[] #[]) := by rw [blk_cell (heap_alloc_new w _)]; rfl
 have HB := hide hb
 clear hb
 go_enter Tryz.func96, Tryz.ntmps96
 go_wp2_with fail
 go_ret
 exact ⟨w.heap.size, rfl, HB.out, Nat.le_refl _, gb_alloc (gb_refl w none) _⟩
def OpsR (w : World) (e : Ending) (w' : World) : Prop := ∃ p0 p1 p2 p3 p4 p5 p6 p7 p8 p9, e = .returned (.agg #[.func (.func 117) #[] #[.pointer (some ⟨p0, 0, none⟩)], .func (.func 117) #[] #[.pointer (some ⟨p1, 0, none⟩)], .func (.func 117) #[] #[.pointer (some ⟨p2, 0, none⟩)], .func (.func 117) #[] #[.pointer (some ⟨p3, 0, none⟩)], .func (.func 117) #[] #[.pointer (some ⟨p4, 0, none⟩)], .func (.func 125) #[] #[.pointer (some ⟨p5, 0, none⟩)], .func (.func 125) #[] #[.pointer (some ⟨p6, 0, none⟩)], .func (.func 126) #[] #[.pointer (some ⟨p7, 0, none⟩)], .func (.func 126) #[] #[.pointer (some ⟨p8, 0, none⟩)], .func (.func 126) #[] #[.pointer (some ⟨p9, 0, none⟩)]]) ∧
 w'.cell? ⟨p0, 0, none⟩ = some (.func (.func 88) #[] #[]) ∧ w'.cell? ⟨p3, 0, none⟩ = some (.func (.func 91) #[] #[]) ∧ w'.cell? ⟨p4, 0, none⟩ = some (.func (.func 92) #[] #[]) ∧ w.grownBy w' none
theorem ops_store {w : World} {g : Nat} (h : w.heap[g]? = some (.cells #[Value.nilFunc, Value.nilFunc, Value.nilFunc, Value.nilFunc, Value.nilFunc, Value.nilFunc, Value.nilFunc, Value.nilFunc, Value.nilFunc, Value.nilFunc] 67 (0, 0))) (p0 p1 p2 p3 p4 p5 p6 p7 p8 p9 : Nat) :
  (storeCells ⟨g, 0, none⟩ [.func (.func 117) #[] #[.pointer (some ⟨p0, 0, none⟩)], .func (.func 117) #[] #[.pointer (some ⟨p1, 0, none⟩)], .func (.func 117) #[] #[.pointer (some ⟨p2, 0, none⟩)], .func (.func 117) #[] #[.pointer (some ⟨p3, 0, none⟩)], .func (.func 117) #[] #[.pointer (some ⟨p4, 0, none⟩)], .func (.func 125) #[] #[.pointer (some ⟨p5, 0, none⟩)], .func (.func 125) #[] #[.pointer (some ⟨p6, 0, none⟩)], .func (.func 126) #[] #[.pointer (some ⟨p7, 0, none⟩)], .func (.func 126) #[] #[.pointer (some ⟨p8, 0, none⟩)], .func (.func 126) #[] #[.pointer (some ⟨p9, 0, none⟩)]] 0).run Tryz.prog w = .ok () (w.setRow g #[.func (.func 117) #[] #[.pointer (some ⟨p0, 0, none⟩)], .func (.func 117) #[] #[.pointer (some ⟨p1, 0, none⟩)], .func (.func 117) #[] #[.pointer (some ⟨p2, 0, none⟩)], .func (.func 117) #[] #[.pointer (some ⟨p3, 0, none⟩)], .func (.func 117) #[] #[.pointer (some ⟨p4, 0, none⟩)], .func (.func 125) #[] #[.pointer (some ⟨p5, 0, none⟩)], .func (.func 125) #[] #[.pointer (some ⟨p6, 0, none⟩)], .func (.func 126) #[] #[.pointer (some ⟨p7, 0, none⟩)], .func (.func 126) #[] #[.pointer (some ⟨p8, 0, none⟩)], .func (.func 126) #[] #[.pointer (some ⟨p9, 0, none⟩)]]) := by
 have hi : (Tryz.prog.info? 67).map (·.size) = some 10 := by kernel_rfl
 exact storeCells_row (P := Tryz.prog) (c' := #[.func (.func 117) #[] #[.pointer (some ⟨p0, 0, none⟩)], .func (.func 117) #[] #[.pointer (some ⟨p1, 0, none⟩)], .func (.func 117) #[] #[.pointer (some ⟨p2, 0, none⟩)], .func (.func 117) #[] #[.pointer (some ⟨p3, 0, none⟩)], .func (.func 117) #[] #[.pointer (some ⟨p4, 0, none⟩)], .func (.func 125) #[] #[.pointer (some ⟨p5, 0, none⟩)], .func (.func 125) #[] #[.pointer (some ⟨p6, 0, none⟩)], .func (.func 126) #[] #[.pointer (some ⟨p7, 0, none⟩)], .func (.func 126) #[] #[.pointer (some ⟨p8, 0, none⟩)], .func (.func 126) #[] #[.pointer (some ⟨p9, 0, none⟩)]]) h hi rfl (by simp [Value.oneCell'])
section
attribute [-go_sem] Go.storeCells
set_option maxHeartbeats 2000000 in
set_option maxRecDepth 100000 in
theorem ops_any (w : World) : Calls Tryz.prog 50 #[] w (OpsR w) := by
 obtain ⟨wa, hwa⟩ : ∃ wa, wa = w.alloc (.cells #[Value.nilFunc, Value.nilFunc, Value.nilFunc, Value.nilFunc, Value.nilFunc, Value.nilFunc, Value.nilFunc, Value.nilFunc, Value.nilFunc, Value.nilFunc] 67) := ⟨_, rfl⟩
 have hr : wa.heap[w.heap.size]? = some (.cells #[Value.nilFunc, Value.nilFunc, Value.nilFunc, Value.nilFunc, Value.nilFunc, Value.nilFunc, Value.nilFunc, Value.nilFunc, Value.nilFunc, Value.nilFunc] 67 (0, 0)) := by rw [hwa]; exact heap_alloc_new w _
 have hg : w.grownBy wa none := by rw [hwa]; exact gb_alloc (gb_refl w none) _
 have hs : wa.heap.size = w.heap.size + 1 := by rw [hwa]; simp
 have HR := hide hr
 have HG := hide hg
 have HS := hide hs
 have HG0 := hide (gb_refl wa none)
 have HWE := hide hwa
 clear hr hg hwa hs
 go_enter Tryz.func50, Tryz.ntmps50
 go_wp2_with fail
 rw [← HWE.out]
 go_wp2_with (first
  | (go_at_call 87; refine (strict_mk _ _).mono ?_; rintro e wn ⟨p, rfl, hc, hps, hg⟩; have HGN := hide (gb_trans HG0.out hg (.inl rfl)); clear HG0; have HG0 := hide HGN.out; clear HGN; have HC := hide hc; have HGS := hide hg; have HPS := hide hps; clear hc hps hg)
  | (go_at_call 93; refine (choose_mk _ _).mono ?_; rintro e wn ⟨p, rfl, hc, hps, hg⟩; have HGN := hide (gb_trans HG0.out hg (.inl rfl)); clear HG0; have HG0 := hide HGN.out; clear HGN; have HC := hide hc; have HGS := hide hg; have HPS := hide hps; clear hc hps hg)
  | (go_at_call 96; refine (compare_mk _ _).mono ?_; rintro e wn ⟨p, rfl, hc, hps, hg⟩; have HGN := hide (gb_trans HG0.out hg (.inl rfl)); clear HG0; have HG0 := hide HGN.out; clear HGN; have HC := hide hc; have HGS := hide hg; have HPS := hide hps; (try clear hst); have hr2 := (HG0.out.block _ (blk_lt HR.out) (by simp)).trans HR.out; have hst := ops_store hr2; clear hr2; clear hc hps hg))
 rename_i w1 p0 HC0 HG1 HP0 w2 p1 HC1 G2 HP1 w3 p2 HC2 G3 HP2 w4 p3 HC3 G4 HP3 w5 p4 HC4 G5 HP4 w6 p5 HC5 G6 _ w7 p6 HC6 G7 _ w8 p7 HC7 G8 _ w9 p8 HC8 G9 _
 obtain ⟨p9, hp9⟩ : ∃ p9, p9 = p := ⟨_, rfl⟩
 subst hp9
 have hr2 := (HG0.out.block _ (blk_lt HR.out) (by simp)).trans HR.out
 have hb : (wn.setRow w.heap.size #[.func (.func 117) #[] #[.pointer (some ⟨p0, 0, none⟩)], .func (.func 117) #[] #[.pointer (some ⟨p1, 0, none⟩)], .func (.func 117) #[] #[.pointer (some ⟨p2, 0, none⟩)], .func (.func 117) #[] #[.pointer (some ⟨p3, 0, none⟩)], .func (.func 117) #[] #[.pointer (some ⟨p4, 0, none⟩)], .func (.func 125) #[] #[.pointer (some ⟨p5, 0, none⟩)], .func (.func 125) #[] #[.pointer (some ⟨p6, 0, none⟩)], .func (.func 126) #[] #[.pointer (some ⟨p7, 0, none⟩)], .func (.func 126) #[] #[.pointer (some ⟨p8, 0, none⟩)], .func (.func 126) #[] #[.pointer (some ⟨p9, 0, none⟩)]]).heap[w.heap.size]? = some (.cells #[.func (.func 117) #[] #[.pointer (some ⟨p0, 0, none⟩)], .func (.func 117) #[] #[.pointer (some ⟨p1, 0, none⟩)], .func (.func 117) #[] #[.pointer (some ⟨p2, 0, none⟩)], .func (.func 117) #[] #[.pointer (some ⟨p3, 0, none⟩)], .func (.func 117) #[] #[.pointer (some ⟨p4, 0, none⟩)], .func (.func 125) #[] #[.pointer (some ⟨p5, 0, none⟩)], .func (.func 125) #[] #[.pointer (some ⟨p6, 0, none⟩)], .func (.func 126) #[] #[.pointer (some ⟨p7, 0, none⟩)], .func (.func 126) #[] #[.pointer (some ⟨p8, 0, none⟩)], .func (.func 126) #[] #[.pointer (some ⟨p9, 0, none⟩)]] 67 (0, 0)) := by
  exact setRow_heap _ _ _ _ _ _ hr2
 have m0 : (wn.setRow w.heap.size #[.func (.func 117) #[] #[.pointer (some ⟨p0, 0, none⟩)], .func (.func 117) #[] #[.pointer (some ⟨p1, 0, none⟩)], .func (.func 117) #[] #[.pointer (some ⟨p2, 0, none⟩)], .func (.func 117) #[] #[.pointer (some ⟨p3, 0, none⟩)], .func (.func 117) #[] #[.pointer (some ⟨p4, 0, none⟩)], .func (.func 125) #[] #[.pointer (some ⟨p5, 0, none⟩)], .func (.func 125) #[] #[.pointer (some ⟨p6, 0, none⟩)], .func (.func 126) #[] #[.pointer (some ⟨p7, 0, none⟩)], .func (.func 126) #[] #[.pointer (some ⟨p8, 0, none⟩)], .func (.func 126) #[] #[.pointer (some ⟨p9, 0, none⟩)]]).cell? ⟨w.heap.size, 0, none⟩ = some (.func (.func 117) #[] #[.pointer (some ⟨p0, 0, none⟩)]) := by rw [blk_cell hb]; rfl
 have m1 : (wn.setRow w.heap.size #[.func (.func 117) #[] #[.pointer (some ⟨p0, 0, none⟩)], .func (.func 117) #[] #[.pointer (some ⟨p1, 0, none⟩)], .func (.func 117) #[] #[.pointer (some ⟨p2, 0, none⟩)], .func (.func 117) #[] #[.pointer (some ⟨p3, 0, none⟩)], .func (.func 117) #[] #[.pointer (some ⟨p4, 0, none⟩)], .func (.func 125) #[] #[.pointer (some ⟨p5, 0, none⟩)], .func (.func 125) #[] #[.pointer (some ⟨p6, 0, none⟩)], .func (.func 126) #[] #[.pointer (some ⟨p7, 0, none⟩)], .func (.func 126) #[] #[.pointer (some ⟨p8, 0, none⟩)], .func (.func 126) #[] #[.pointer (some ⟨p9, 0, none⟩)]]).cell? ⟨w.heap.size, 1, none⟩ = some (.func (.func 117) #[] #[.pointer (some ⟨p1, 0, none⟩)]) := by rw [blk_cell hb]; rfl
 have m2 : (wn.setRow w.heap.size #[.func (.func 117) #[] #[.pointer (some ⟨p0, 0, none⟩)], .func (.func 117) #[] #[.pointer (some ⟨p1, 0, none⟩)], .func (.func 117) #[] #[.pointer (some ⟨p2, 0, none⟩)], .func (.func 117) #[] #[.pointer (some ⟨p3, 0, none⟩)], .func (.func 117) #[] #[.pointer (some ⟨p4, 0, none⟩)], .func (.func 125) #[] #[.pointer (some ⟨p5, 0, none⟩)], .func (.func 125) #[] #[.pointer (some ⟨p6, 0, none⟩)], .func (.func 126) #[] #[.pointer (some ⟨p7, 0, none⟩)], .func (.func 126) #[] #[.pointer (some ⟨p8, 0, none⟩)], .func (.func 126) #[] #[.pointer (some ⟨p9, 0, none⟩)]]).cell? ⟨w.heap.size, 2, none⟩ = some (.func (.func 117) #[] #[.pointer (some ⟨p2, 0, none⟩)]) := by rw [blk_cell hb]; rfl
 have m3 : (wn.setRow w.heap.size #[.func (.func 117) #[] #[.pointer (some ⟨p0, 0, none⟩)], .func (.func 117) #[] #[.pointer (some ⟨p1, 0, none⟩)], .func (.func 117) #[] #[.pointer (some ⟨p2, 0, none⟩)], .func (.func 117) #[] #[.pointer (some ⟨p3, 0, none⟩)], .func (.func 117) #[] #[.pointer (some ⟨p4, 0, none⟩)], .func (.func 125) #[] #[.pointer (some ⟨p5, 0, none⟩)], .func (.func 125) #[] #[.pointer (some ⟨p6, 0, none⟩)], .func (.func 126) #[] #[.pointer (some ⟨p7, 0, none⟩)], .func (.func 126) #[] #[.pointer (some ⟨p8, 0, none⟩)], .func (.func 126) #[] #[.pointer (some ⟨p9, 0, none⟩)]]).cell? ⟨w.heap.size, 3, none⟩ = some (.func (.func 117) #[] #[.pointer (some ⟨p3, 0, none⟩)]) := by rw [blk_cell hb]; rfl
 have m4 : (wn.setRow w.heap.size #[.func (.func 117) #[] #[.pointer (some ⟨p0, 0, none⟩)], .func (.func 117) #[] #[.pointer (some ⟨p1, 0, none⟩)], .func (.func 117) #[] #[.pointer (some ⟨p2, 0, none⟩)], .func (.func 117) #[] #[.pointer (some ⟨p3, 0, none⟩)], .func (.func 117) #[] #[.pointer (some ⟨p4, 0, none⟩)], .func (.func 125) #[] #[.pointer (some ⟨p5, 0, none⟩)], .func (.func 125) #[] #[.pointer (some ⟨p6, 0, none⟩)], .func (.func 126) #[] #[.pointer (some ⟨p7, 0, none⟩)], .func (.func 126) #[] #[.pointer (some ⟨p8, 0, none⟩)], .func (.func 126) #[] #[.pointer (some ⟨p9, 0, none⟩)]]).cell? ⟨w.heap.size, 4, none⟩ = some (.func (.func 117) #[] #[.pointer (some ⟨p4, 0, none⟩)]) := by rw [blk_cell hb]; rfl
 have m5 : (wn.setRow w.heap.size #[.func (.func 117) #[] #[.pointer (some ⟨p0, 0, none⟩)], .func (.func 117) #[] #[.pointer (some ⟨p1, 0, none⟩)], .func (.func 117) #[] #[.pointer (some ⟨p2, 0, none⟩)], .func (.func 117) #[] #[.pointer (some ⟨p3, 0, none⟩)], .func (.func 117) #[] #[.pointer (some ⟨p4, 0, none⟩)], .func (.func 125) #[] #[.pointer (some ⟨p5, 0, none⟩)], .func (.func 125) #[] #[.pointer (some ⟨p6, 0, none⟩)], .func (.func 126) #[] #[.pointer (some ⟨p7, 0, none⟩)], .func (.func 126) #[] #[.pointer (some ⟨p8, 0, none⟩)], .func (.func 126) #[] #[.pointer (some ⟨p9, 0, none⟩)]]).cell? ⟨w.heap.size, 5, none⟩ = some (.func (.func 125) #[] #[.pointer (some ⟨p5, 0, none⟩)]) := by rw [blk_cell hb]; rfl
 have m6 : (wn.setRow w.heap.size #[.func (.func 117) #[] #[.pointer (some ⟨p0, 0, none⟩)], .func (.func 117) #[] #[.pointer (some ⟨p1, 0, none⟩)], .func (.func 117) #[] #[.pointer (some ⟨p2, 0, none⟩)], .func (.func 117) #[] #[.pointer (some ⟨p3, 0, none⟩)], .func (.func 117) #[] #[.pointer (some ⟨p4, 0, none⟩)], .func (.func 125) #[] #[.pointer (some ⟨p5, 0, none⟩)], .func (.func 125) #[] #[.pointer (some ⟨p6, 0, none⟩)], .func (.func 126) #[] #[.pointer (some ⟨p7, 0, none⟩)], .func (.func 126) #[] #[.pointer (some ⟨p8, 0, none⟩)], .func (.func 126) #[] #[.pointer (some ⟨p9, 0, none⟩)]]).cell? ⟨w.heap.size, 6, none⟩ = some (.func (.func 125) #[] #[.pointer (some ⟨p6, 0, none⟩)]) := by rw [blk_cell hb]; rfl
 have m7 : (wn.setRow w.heap.size #[.func (.func 117) #[] #[.pointer (some ⟨p0, 0, none⟩)], .func (.func 117) #[] #[.pointer (some ⟨p1, 0, none⟩)], .func (.func 117) #[] #[.pointer (some ⟨p2, 0, none⟩)], .func (.func 117) #[] #[.pointer (some ⟨p3, 0, none⟩)], .func (.func 117) #[] #[.pointer (some ⟨p4, 0, none⟩)], .func (.func 125) #[] #[.pointer (some ⟨p5, 0, none⟩)], .func (.func 125) #[] #[.pointer (some ⟨p6, 0, none⟩)], .func (.func 126) #[] #[.pointer (some ⟨p7, 0, none⟩)], .func (.func 126) #[] #[.pointer (some ⟨p8, 0, none⟩)], .func (.func 126) #[] #[.pointer (some ⟨p9, 0, none⟩)]]).cell? ⟨w.heap.size, 7, none⟩ = some (.func (.func 126) #[] #[.pointer (some ⟨p7, 0, none⟩)]) := by rw [blk_cell hb]; rfl
 have m8 : (wn.setRow w.heap.size #[.func (.func 117) #[] #[.pointer (some ⟨p0, 0, none⟩)], .func (.func 117) #[] #[.pointer (some ⟨p1, 0, none⟩)], .func (.func 117) #[] #[.pointer (some ⟨p2, 0, none⟩)], .func (.func 117) #[] #[.pointer (some ⟨p3, 0, none⟩)], .func (.func 117) #[] #[.pointer (some ⟨p4, 0, none⟩)], .func (.func 125) #[] #[.pointer (some ⟨p5, 0, none⟩)], .func (.func 125) #[] #[.pointer (some ⟨p6, 0, none⟩)], .func (.func 126) #[] #[.pointer (some ⟨p7, 0, none⟩)], .func (.func 126) #[] #[.pointer (some ⟨p8, 0, none⟩)], .func (.func 126) #[] #[.pointer (some ⟨p9, 0, none⟩)]]).cell? ⟨w.heap.size, 8, none⟩ = some (.func (.func 126) #[] #[.pointer (some ⟨p8, 0, none⟩)]) := by rw [blk_cell hb]; rfl
 have m9 : (wn.setRow w.heap.size #[.func (.func 117) #[] #[.pointer (some ⟨p0, 0, none⟩)], .func (.func 117) #[] #[.pointer (some ⟨p1, 0, none⟩)], .func (.func 117) #[] #[.pointer (some ⟨p2, 0, none⟩)], .func (.func 117) #[] #[.pointer (some ⟨p3, 0, none⟩)], .func (.func 117) #[] #[.pointer (some ⟨p4, 0, none⟩)], .func (.func 125) #[] #[.pointer (some ⟨p5, 0, none⟩)], .func (.func 125) #[] #[.pointer (some ⟨p6, 0, none⟩)], .func (.func 126) #[] #[.pointer (some ⟨p7, 0, none⟩)], .func (.func 126) #[] #[.pointer (some ⟨p8, 0, none⟩)], .func (.func 126) #[] #[.pointer (some ⟨p9, 0, none⟩)]]).cell? ⟨w.heap.size, 9, none⟩ = some (.func (.func 126) #[] #[.pointer (some ⟨p9, 0, none⟩)]) := by rw [blk_cell hb]; rfl
 refine bodyPost_ret (v := .agg #[.func (.func 117) #[] #[.pointer (some ⟨p0, 0, none⟩)], .func (.func 117) #[] #[.pointer (some ⟨p1, 0, none⟩)], .func (.func 117) #[] #[.pointer (some ⟨p2, 0, none⟩)], .func (.func 117) #[] #[.pointer (some ⟨p3, 0, none⟩)], .func (.func 117) #[] #[.pointer (some ⟨p4, 0, none⟩)], .func (.func 125) #[] #[.pointer (some ⟨p5, 0, none⟩)], .func (.func 125) #[] #[.pointer (some ⟨p6, 0, none⟩)], .func (.func 126) #[] #[.pointer (some ⟨p7, 0, none⟩)], .func (.func 126) #[] #[.pointer (some ⟨p8, 0, none⟩)], .func (.func 126) #[] #[.pointer (some ⟨p9, 0, none⟩)]]) (by simp [results, Tryz.results50, go_sem, m0, m1, m2, m3, m4, m5, m6, m7, m8, m9]) rfl ?_
 have hs := HS.out
 have l3 := G4.out.size; have l2 := G3.out.size; have l1 := G2.out.size; have l0 := HG1.out.size
 have q0 : w.heap.size < p0 := by have := HP0.out; omega
 have q3 : w.heap.size < p3 := by have := HP3.out; omega
 have q4 : w.heap.size < p4 := by have := HP4.out; have := G5.out.size; omega
 have g9 := HGS.out
 have e9 := gb_trans G9.out g9 (.inl rfl)
 have e8 := gb_trans G8.out e9 (.inl rfl)
 have e7 := gb_trans G7.out e8 (.inl rfl)
 have e6 := gb_trans G6.out e7 (.inl rfl)
 have e5 := gb_trans G5.out e6 (.inl rfl)
 have e4 := gb_trans G4.out e5 (.inl rfl)
 have e3 := gb_trans G3.out e4 (.inl rfl)
 have e2 := gb_trans G2.out e3 (.inl rfl)
 have kk : ∀ p, w.heap.size < p → (wn.setRow w.heap.size #[.func (.func 117) #[] #[.pointer (some ⟨p0, 0, none⟩)], .func (.func 117) #[] #[.pointer (some ⟨p1, 0, none⟩)], .func (.func 117) #[] #[.pointer (some ⟨p2, 0, none⟩)], .func (.func 117) #[] #[.pointer (some ⟨p3, 0, none⟩)], .func (.func 117) #[] #[.pointer (some ⟨p4, 0, none⟩)], .func (.func 125) #[] #[.pointer (some ⟨p5, 0, none⟩)], .func (.func 125) #[] #[.pointer (some ⟨p6, 0, none⟩)], .func (.func 126) #[] #[.pointer (some ⟨p7, 0, none⟩)], .func (.func 126) #[] #[.pointer (some ⟨p8, 0, none⟩)], .func (.func 126) #[] #[.pointer (some ⟨p9, 0, none⟩)]]).heap[p]? = wn.heap[p]? := fun p hp => heap_setRow _ _ _ _ (Nat.ne_of_gt hp)
 exact ⟨p0, p1, p2, p3, p4, p5, p6, p7, p8, p9, rfl, (World.cell?_of_block (kk _ q0)).trans (cell_gb HC0.out e2), (World.cell?_of_block (kk _ q3)).trans (cell_gb HC3.out e5), (World.cell?_of_block (kk _ q4)).trans (cell_gb HC4.out e6), (gb_setRow (gb_trans HG.out HG0.out (.inl rfl)) _ _ (Nat.le_refl _))⟩
end
end Go.Proofs.YtbmgodmfpoappaaGreat
