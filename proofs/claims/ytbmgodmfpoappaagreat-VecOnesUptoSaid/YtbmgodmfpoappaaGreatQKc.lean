/-
  vec's strict rules of two ints: the function that a null makes null, and the rule that holds it.
-/
import Derived.Test.YtbmgodmfpoappaaGreatQKb
import Derived.Laws.EntriesVeiled
import Derived.Shelf.Abstract
namespace Go.Proofs.YtbmgodmfpoappaaGreat
open Go.RowKit
attribute [local go_sem ↓] Go.wp_at_zero Go.wp_at_succ
set_option maxHeartbeats 1000000 in
theorem both_any (t : Int) (w : World) : Calls Tryz.prog 122 #[.int .i64 t] w fun e w' => e = .returned (.agg #[.int .i64 t, .int .i64 t]) ∧ w.grownBy w' none := by
 go_enter Tryz.func122, Tryz.ntmps122
 go_wp2_with fail
 refine bodyPost_ret (v := .agg #[.int .i64 t, .int .i64 t]) (by simp [results, Tryz.results122, go_sem]) rfl ⟨rfl, ?_⟩
 exact gb_alloc (gb_refl w none) _
set_option maxHeartbeats 1000000 in
theorem quotient_any (k : Int) (w : World) : Calls Tryz.prog 124 #[.int .i64 k] w fun e w' => ∃ g, e = .returned (.func (.func 144) #[] #[.pointer (some ⟨g, 0, none⟩)]) ∧ w'.cell? ⟨g, 0, none⟩ = some (.int .i64 k) ∧ w.heap.size ≤ g ∧ w.grownBy w' none := by
 go_enter Tryz.func124, Tryz.ntmps124
 go_wp2_with fail
 go_ret
 exact ⟨w.heap.size, rfl, by simp, Nat.le_refl _, gb_alloc (gb_refl w none) _⟩
def NumR (r : Option Int) (w2 : World) (e : Ending) (w' : World) : Prop := w2.grownBy w' none ∧ match r with
 | some n => e = .returned (.tuple #[.int .i64 n, .bool true])
 | none => e = .returned (.tuple #[.int .i64 0, .bool false])
theorem pair_eq (w : World) : (Op.equalIn 10000 77 (.agg #[.int .i64 2, .int .i64 2]) (.agg #[.int .i64 2, .int .i64 2])).run Tryz.prog w = .ok true w := by kernel_rfl
theorem pair_42 (w : World) : (Op.equalIn 10000 77 (.agg #[.int .i64 2, .int .i64 2]) (.agg #[.int .i64 4, .int .i64 2])).run Tryz.prog w = .ok false w := by kernel_rfl
theorem pair_24 (w : World) : (Op.equalIn 10000 77 (.agg #[.int .i64 2, .int .i64 2]) (.agg #[.int .i64 2, .int .i64 4])).run Tryz.prog w = .ok false w := by kernel_rfl
def RuleE (v : Value) (e : Ending) : Prop := e = .returned (.tuple #[.agg #[.int .i64 2, v, Value.nilFunc], .bool true])
theorem rule_put {w : World} {g : Nat} {c0 c1 c2 : Value} (h : w.heap[g]? = some (.cells #[c0, c1, c2] 73 (0, 0))) (v : Value) :
  (((w.setCell ⟨g, 0, none⟩ (.int .i64 2)).setCell ⟨g, 1, none⟩ v).setCell ⟨g, 2, none⟩ Value.nilFunc).heap[g]? = some (.cells #[.int .i64 2, v, Value.nilFunc] 73 (0, 0)) := by
 rw [blk_set (blk_set (blk_set h 0 _) 1 _) 2 _]
 rfl
theorem rule_gb {w0 w : World} {g : Nat} (h : w0.grownBy w none) (hg : w0.heap.size ≤ g) (v : Value) : w0.grownBy (((w.setCell ⟨g, 0, none⟩ (.int .i64 2)).setCell ⟨g, 1, none⟩ v).setCell ⟨g, 2, none⟩ Value.nilFunc) none :=
 gb_setCell (gb_setCell (gb_setCell h (.inr hg) _) (.inr hg) _) (.inr hg) _
theorem rule_other {w : World} {g b o : Nat} (v : Value) (hne : b ≠ g) : (((w.setCell ⟨g, 0, none⟩ (.int .i64 2)).setCell ⟨g, 1, none⟩ v).setCell ⟨g, 2, none⟩ Value.nilFunc).cell? ⟨b, o, none⟩ = w.cell? ⟨b, o, none⟩ := by
 have k : ∀ (w : World) (i : Nat) (u : Value), (w.setCell ⟨g, i, none⟩ u).heap[b]? = w.heap[b]? := fun w i u => Below.heap_setCell w ⟨g, i, none⟩ u b (fun e => hne e)
 exact World.cell?_of_block (a := ⟨b, o, none⟩) (by rw [k, k, k])
structure PairB (w wa : World) : Prop where
 p : wa.heap[w.heap.size]? = some (.cells #[.int .i64 2, .int .i64 2] 77 (0, 0))
 r : wa.heap[w.heap.size + 1]? = some (.cells #[.int .i64 0, Value.nilFunc, Value.nilFunc] 73 (0, 0))
 g : w.grownBy wa none
 s : wa.heap.size = w.heap.size + 2
theorem PairB.mk_ (w : World) : PairB w ((w.alloc (.cells #[.int .i64 2, .int .i64 2] 77)).alloc (.cells #[.int .i64 0, Value.nilFunc, Value.nilFunc] 73)) :=
 ⟨((gb_alloc (gb_refl (w.alloc (.cells #[.int .i64 2, .int .i64 2] 77)) none) _).block _ (by simp) (by simp)).trans (heap_alloc_new w _), by have := heap_alloc_new (w.alloc (.cells #[.int .i64 2, .int .i64 2] 77)) (.cells #[.int .i64 0, Value.nilFunc, Value.nilFunc] 73); rwa [World.size_alloc] at this, gb_alloc (gb_alloc (gb_refl w none) _) _, by simp⟩
set_option maxHeartbeats 2000000 in
set_option maxRecDepth 100000 in
theorem divide_ints (w : World) : Calls Tryz.prog 91 #[.agg #[.int .i64 2, .int .i64 2]] w fun e w' => ∃ g, RuleE (.func (.func 144) #[] #[.pointer (some ⟨g, 0, none⟩)]) e ∧ w'.cell? ⟨g, 0, none⟩ = some (.int .i64 1) ∧ w.heap.size ≤ g ∧ w.grownBy w' none := by
 obtain ⟨wa, hwa⟩ : ∃ wa, wa = (w.alloc (.cells #[.int .i64 2, .int .i64 2] 77)).alloc (.cells #[.int .i64 0, Value.nilFunc, Value.nilFunc] 73) := ⟨_, rfl⟩
 obtain ⟨hp, hr, hg, hs⟩ := PairB.mk_ w
 rw [← hwa] at hp hr hg hs
 have HP := hide hp
 have HR := hide hr
 have HG := hide hg
 have HS := hide hs
 have HWE := hide hwa
 have p1 := pair_eq
 have p2 := pair_42
 have p3 := pair_24
 have x0 : wa.cell? ⟨w.heap.size, 0, none⟩ = some (.int .i64 2) := by rw [blk_cell hp]; rfl
 have x1 : wa.cell? ⟨w.heap.size, 1, none⟩ = some (.int .i64 2) := by rw [blk_cell hp]; rfl
 clear hp hr hg hwa hs
 go_enter Tryz.func91, Tryz.ntmps91
 go_wp2_with fail
 rw [← HWE.out]
 go_wp2_with (first
  | (go_at_call 122; refine (both_any 2 _).mono ?_; rintro e w1 ⟨rfl, hg1⟩; have HG1 := hide (hg1); have x0 := cell_gb x0 hg1; have x1 := cell_gb x1 hg1; skip; clear hg1)
  | (go_at_call 124; refine (quotient_any 1 _).mono ?_; rintro e w2 ⟨g, rfl, hc2, hgs, hg2⟩; have HGS := hide hgs; have HG2 := hide (gb_trans HG1.out hg2 (.inl rfl)); have HC2 := hide hc2; have hr2 := (HG2.out.block _ (blk_lt HR.out) (by simp)).trans HR.out; have HR2 := hide hr2; have z0 := blk_frozen hr2 0; have z1 := blk_frozen hr2 1; have z2 := blk_frozen hr2 2; have y0 : w2.cell? ⟨w.heap.size + 1, 0, none⟩ = some (.int .i64 0) := (by { rw [blk_cell hr2]; rfl }); have y1 : w2.cell? ⟨w.heap.size + 1, 1, none⟩ = some Value.nilFunc := (by { rw [blk_cell hr2]; rfl }); have y2 : w2.cell? ⟨w.heap.size + 1, 2, none⟩ = some Value.nilFunc := (by { rw [blk_cell hr2]; rfl }); clear hr2; clear hg2 hc2 hgs))
 have hb := rule_put HR2.out (.func (.func 144) #[] #[.pointer (some ⟨g, 0, none⟩)])
 have m0 : (((w2.setCell ⟨w.heap.size + 1, 0, none⟩ (.int .i64 2)).setCell ⟨w.heap.size + 1, 1, none⟩ (.func (.func 144) #[] #[.pointer (some ⟨g, 0, none⟩)])).setCell ⟨w.heap.size + 1, 2, none⟩ Value.nilFunc).cell? ⟨w.heap.size + 1, 0, none⟩ = some (.int .i64 2) := by rw [blk_cell hb]; rfl
 have m1 : (((w2.setCell ⟨w.heap.size + 1, 0, none⟩ (.int .i64 2)).setCell ⟨w.heap.size + 1, 1, none⟩ (.func (.func 144) #[] #[.pointer (some ⟨g, 0, none⟩)])).setCell ⟨w.heap.size + 1, 2, none⟩ Value.nilFunc).cell? ⟨w.heap.size + 1, 1, none⟩ = some (.func (.func 144) #[] #[.pointer (some ⟨g, 0, none⟩)]) := by rw [blk_cell hb]; rfl
 have m2 : (((w2.setCell ⟨w.heap.size + 1, 0, none⟩ (.int .i64 2)).setCell ⟨w.heap.size + 1, 1, none⟩ (.func (.func 144) #[] #[.pointer (some ⟨g, 0, none⟩)])).setCell ⟨w.heap.size + 1, 2, none⟩ Value.nilFunc).cell? ⟨w.heap.size + 1, 2, none⟩ = some Value.nilFunc := by rw [blk_cell hb]; rfl
 refine bodyPost_ret (v := .tuple #[.agg #[.int .i64 2, .func (.func 144) #[] #[.pointer (some ⟨g, 0, none⟩)], Value.nilFunc], .bool true]) (by simp [results, Tryz.results91, go_sem, m0, m1, m2]) rfl ?_
 have hgw := rule_gb (w0 := w) (gb_trans HG.out HG2.out (.inl rfl)) (Nat.le_succ _) (.func (.func 144) #[] #[.pointer (some ⟨g, 0, none⟩)])
 exact ⟨g, rfl, (rule_other (.func (.func 144) #[] #[.pointer (some ⟨g, 0, none⟩)]) (show g ≠ w.heap.size + 1 by have := HGS.out; have := HG1.out.size; have := HS.out; omega)).trans HC2.out, by have := HGS.out; have := HG1.out.size; have := HS.out; omega, hgw⟩
def sumF (a b : Int) : Option Int := if -9223372036854775807 ≤ a + b ∧ a + b ≤ 9223372036854775807 then some (a + b) else none
set_option maxHeartbeats 2000000 in
set_option maxRecDepth 100000 in
theorem sum_any (a b : Int) (ha : Num64 a) (hb : Num64 b) (w : World) : Calls Tryz.prog 119 #[.int .i64 a, .int .i64 b] w (NumR (sumF a b) w) := by
 by_cases hs : -9223372036854775807 ≤ a + b ∧ a + b ≤ 9223372036854775807
 ·refine (sum_ok a b hs w).mono fun e w' h => ⟨h.2 ▸ gb_refl w none, ?_⟩
  unfold sumF
  rw [if_pos hs]
  exact h.1
 ·have HN := hide (show sumF a b = none by unfold sumF; rw [if_neg hs])
  have ha1 := ha.1
  have ha2 := ha.2
  have hb1 := hb.1
  have hb2 := hb.2
  by_cases hu : IntKind.i64.wrap (a + b) = -9223372036854775808
  ·have q1 := hu
   clear hs ha hb ha1 ha2 hb1 hb2 hu
   go_enter Tryz.func119, Tryz.ntmps119
   go_wp2_with fail
   exact bodyPost_ret (v := .tuple #[.int .i64 0, .bool false]) (by simp [results, Tryz.results119, go_sem]) rfl ⟨gb_refl w none, by rw [HN.out]⟩
  ·obtain ⟨m, hme⟩ : ∃ m, m = IntKind.i64.wrap (a + b) := ⟨_, rfl⟩
   have q1 : IntKind.i64.wrap (a + b) = m := hme.symm
   rw [IntKind.wrap_i64] at hme hu
   have e0 : (m == -9223372036854775808) = false := int_beq_f (by omega)
   by_cases hb0 : 0 < b
   ·have d1 : decide (a < m) = false := decide_eq_false (by omega)
    have d2 : decide (0 < b) = true := decide_eq_true hb0
    clear hs ha hb ha1 ha2 hb1 hb2 hu hme hb0
    go_enter Tryz.func119, Tryz.ntmps119
    go_wp2_with fail
    exact bodyPost_ret (v := .tuple #[.int .i64 0, .bool false]) (by simp [results, Tryz.results119, go_sem]) rfl ⟨gb_refl w none, by rw [HN.out]⟩
   ·have d1 : decide (a < m) = true := decide_eq_true (by omega)
    have d2 : decide (0 < b) = false := decide_eq_false hb0
    clear hs ha hb ha1 ha2 hb1 hb2 hu hme hb0
    go_enter Tryz.func119, Tryz.ntmps119
    go_wp2_with fail
    exact bodyPost_ret (v := .tuple #[.int .i64 0, .bool false]) (by simp [results, Tryz.results119, go_sem]) rfl ⟨gb_refl w none, by rw [HN.out]⟩
set_option maxHeartbeats 2000000 in
set_option maxRecDepth 100000 in
theorem alike_sum (w : World) : Calls Tryz.prog 120 #[.func (.func 119) #[] #[], .agg #[.int .i64 2, .int .i64 2]] w fun e w' => RuleE (.func (.func 119) #[] #[]) e ∧ w.grownBy w' none := by
 obtain ⟨wa, hwa⟩ : ∃ wa, wa = (w.alloc (.cells #[.int .i64 2, .int .i64 2] 77)).alloc (.cells #[.int .i64 0, Value.nilFunc, Value.nilFunc] 73) := ⟨_, rfl⟩
 obtain ⟨hp, hr, hg, hs⟩ := PairB.mk_ w
 rw [← hwa] at hp hr hg hs
 have HP := hide hp
 have HR := hide hr
 have HG := hide hg
 have HS := hide hs
 have HWE := hide hwa
 have p1 := pair_eq
 have p2 := pair_42
 have p3 := pair_24
 have x0 : wa.cell? ⟨w.heap.size, 0, none⟩ = some (.int .i64 2) := by rw [blk_cell hp]; rfl
 have x1 : wa.cell? ⟨w.heap.size, 1, none⟩ = some (.int .i64 2) := by rw [blk_cell hp]; rfl
 clear hp hr hg hwa hs
 go_enter Tryz.func120, Tryz.ntmps120
 go_wp2_with fail
 rw [← HWE.out]
 go_wp2_with (go_at_call 122; refine (both_any 2 _).mono ?_; rintro e w1 ⟨rfl, hg1⟩; have HG1 := hide (hg1); have x0 := cell_gb x0 hg1; have x1 := cell_gb x1 hg1; have hr2 := (HG1.out.block _ (blk_lt HR.out) (by simp)).trans HR.out; have HR2 := hide hr2; have z0 := blk_frozen hr2 0; have z1 := blk_frozen hr2 1; have z2 := blk_frozen hr2 2; have y0 : w1.cell? ⟨w.heap.size + 1, 0, none⟩ = some (.int .i64 0) := (by { rw [blk_cell hr2]; rfl }); have y1 : w1.cell? ⟨w.heap.size + 1, 1, none⟩ = some Value.nilFunc := (by { rw [blk_cell hr2]; rfl }); have y2 : w1.cell? ⟨w.heap.size + 1, 2, none⟩ = some Value.nilFunc := (by { rw [blk_cell hr2]; rfl }); clear hr2; clear hg1)
 have hb := rule_put HR2.out (.func (.func 119) #[] #[])
 have m0 : (((w1.setCell ⟨w.heap.size + 1, 0, none⟩ (.int .i64 2)).setCell ⟨w.heap.size + 1, 1, none⟩ (.func (.func 119) #[] #[])).setCell ⟨w.heap.size + 1, 2, none⟩ Value.nilFunc).cell? ⟨w.heap.size + 1, 0, none⟩ = some (.int .i64 2) := by rw [blk_cell hb]; rfl
 have m1 : (((w1.setCell ⟨w.heap.size + 1, 0, none⟩ (.int .i64 2)).setCell ⟨w.heap.size + 1, 1, none⟩ (.func (.func 119) #[] #[])).setCell ⟨w.heap.size + 1, 2, none⟩ Value.nilFunc).cell? ⟨w.heap.size + 1, 1, none⟩ = some (.func (.func 119) #[] #[]) := by rw [blk_cell hb]; rfl
 have m2 : (((w1.setCell ⟨w.heap.size + 1, 0, none⟩ (.int .i64 2)).setCell ⟨w.heap.size + 1, 1, none⟩ (.func (.func 119) #[] #[])).setCell ⟨w.heap.size + 1, 2, none⟩ Value.nilFunc).cell? ⟨w.heap.size + 1, 2, none⟩ = some Value.nilFunc := by rw [blk_cell hb]; rfl
 refine bodyPost_ret (v := .tuple #[.agg #[.int .i64 2, .func (.func 119) #[] #[], Value.nilFunc], .bool true]) (by simp [results, Tryz.results120, go_sem, m0, m1, m2]) rfl ?_
 exact ⟨rfl, rule_gb (w0 := w) (gb_trans HG.out HG1.out (.inl rfl)) (Nat.le_succ _) (.func (.func 119) #[] #[])⟩
set_option maxHeartbeats 2000000 in
set_option maxRecDepth 100000 in
theorem add_ints (w : World) : Calls Tryz.prog 88 #[.agg #[.int .i64 2, .int .i64 2]] w fun e w' => RuleE (.func (.func 119) #[] #[]) e ∧ w.grownBy w' none := by
 obtain ⟨wa, hwa⟩ : ∃ wa, wa = (w.alloc (.cells #[.int .i64 2, .int .i64 2] 77)).alloc (.cells #[.int .i64 0, Value.nilFunc, Value.nilFunc] 73) := ⟨_, rfl⟩
 obtain ⟨hp, hr, hg, hs⟩ := PairB.mk_ w
 rw [← hwa] at hp hr hg hs
 have HP := hide hp
 have HR := hide hr
 have HG := hide hg
 have HS := hide hs
 have HWE := hide hwa
 have p1 := pair_eq
 have p2 := pair_42
 have p3 := pair_24
 have x0 : wa.cell? ⟨w.heap.size, 0, none⟩ = some (.int .i64 2) := by rw [blk_cell hp]; rfl
 have x1 : wa.cell? ⟨w.heap.size, 1, none⟩ = some (.int .i64 2) := by rw [blk_cell hp]; rfl
 clear hp hr hg hwa hs
 go_enter Tryz.func88, Tryz.ntmps88
 go_wp2_with fail
 rw [← HWE.out]
 go_wp2_with (go_at_call 120; refine (alike_sum _).mono ?_; rintro e w1 ⟨rfl, hg1⟩; have HG1 := hide hg1; have hr2 := (HG1.out.block _ (blk_lt HR.out) (by simp)).trans HR.out; have HR2 := hide hr2; have z0 := blk_frozen hr2 0; have z1 := blk_frozen hr2 1; have z2 := blk_frozen hr2 2; have y0 : w1.cell? ⟨w.heap.size + 1, 0, none⟩ = some (.int .i64 0) := (by { rw [blk_cell hr2]; rfl }); have y1 : w1.cell? ⟨w.heap.size + 1, 1, none⟩ = some Value.nilFunc := (by { rw [blk_cell hr2]; rfl }); have y2 : w1.cell? ⟨w.heap.size + 1, 2, none⟩ = some Value.nilFunc := (by { rw [blk_cell hr2]; rfl }); clear hr2; clear hg1)
 have hb := rule_put HR2.out (.func (.func 119) #[] #[])
 have m0 : (((w1.setCell ⟨w.heap.size + 1, 0, none⟩ (.int .i64 2)).setCell ⟨w.heap.size + 1, 1, none⟩ (.func (.func 119) #[] #[])).setCell ⟨w.heap.size + 1, 2, none⟩ Value.nilFunc).cell? ⟨w.heap.size + 1, 0, none⟩ = some (.int .i64 2) := by rw [blk_cell hb]; rfl
 have m1 : (((w1.setCell ⟨w.heap.size + 1, 0, none⟩ (.int .i64 2)).setCell ⟨w.heap.size + 1, 1, none⟩ (.func (.func 119) #[] #[])).setCell ⟨w.heap.size + 1, 2, none⟩ Value.nilFunc).cell? ⟨w.heap.size + 1, 1, none⟩ = some (.func (.func 119) #[] #[]) := by rw [blk_cell hb]; rfl
 have m2 : (((w1.setCell ⟨w.heap.size + 1, 0, none⟩ (.int .i64 2)).setCell ⟨w.heap.size + 1, 1, none⟩ (.func (.func 119) #[] #[])).setCell ⟨w.heap.size + 1, 2, none⟩ Value.nilFunc).cell? ⟨w.heap.size + 1, 2, none⟩ = some Value.nilFunc := by rw [blk_cell hb]; rfl
 refine bodyPost_ret (v := .tuple #[.agg #[.int .i64 2, .func (.func 119) #[] #[], Value.nilFunc], .bool true]) (by simp [results, Tryz.results88, go_sem, m0, m1, m2]) rfl ?_
 exact ⟨rfl, rule_gb (w0 := w) (gb_trans HG.out HG1.out (.inl rfl)) (Nat.le_succ _) (.func (.func 119) #[] #[])⟩
end Go.Proofs.YtbmgodmfpoappaaGreat
namespace Go.Proofs.YtbmgodmfpoappaaGreat
open Go.RowKit
attribute [local go_sem ↓] Go.wp_at_zero Go.wp_at_succ
def I64 (n : Int) : Prop := -9223372036854775808 ≤ n ∧ n ≤ 9223372036854775807
theorem I64.num {n : Int} (h : I64 n) (h0 : n ≠ -9223372036854775808) : Num64 n := ⟨by have := h.1; omega, h.2⟩
def strictF (f : Int → Int → Option Int) (a b : Int) : Option Int := if a = -9223372036854775808 ∨ b = -9223372036854775808 then some (-9223372036854775808) else f a b
def quoF (a b : Int) : Option Int := some (quoI a b)
def ZR (o : Obj) : Prop := ∃ n a b, o = .cells #[.int .i64 n, a, b] 73 (0, 0) ∧ n ≠ 1
def StrF (n : Nat) (w : World) (g : Nat) (f : Int → Int → Option Int) : Prop := ∀ w2, (∀ i, n ≤ i → i < w.heap.size → (∃ o, w.heap[i]? = some o ∧ ZR o) ∨ w2.heap[i]? = w.heap[i]?) → ∀ a b, I64 a → I64 b → Calls Tryz.prog 118 #[.int .i64 a, .int .i64 b, .pointer (some ⟨g, 0, none⟩)] w2 (NumR (f a b) w2)
theorem cell_own {w w2 : World} {n g : Nat} {u : Value} (h : w.cell? ⟨g, 0, none⟩ = some u) (hu : ∀ n, n ≠ 1 → u ≠ .int .i64 n) (hn : n ≤ g) (hk : ∀ i, n ≤ i → i < w.heap.size → (∃ o, w.heap[i]? = some o ∧ ZR o) ∨ w2.heap[i]? = w.heap[i]?) : w2.cell? ⟨g, 0, none⟩ = some u := by
 rcases hk g hn (World.block_lt_of_cell? w _ h) with ⟨o, ho, n, a, b, rfl, hz⟩ | e
 ·rw [blk_cell ho] at h
  exact absurd (by injection h with h; exact h.symm) (hu n hz)
 ·exact (World.cell?_of_block e).trans h
def StrR (f : Int → Int → Option Int) (w : World) (e : Ending) (w' : World) : Prop := ∃ g, RuleE (.func (.func 118) #[] #[.pointer (some ⟨g, 0, none⟩)]) e ∧ StrF w.heap.size w' g f ∧ w.grownBy w' none
theorem strict_null (f : Int → Int → Option Int) (a b : Int) (g : Nat) (h : a = -9223372036854775808 ∨ b = -9223372036854775808) (w : World) :
  Calls Tryz.prog 118 #[.int .i64 a, .int .i64 b, .pointer (some ⟨g, 0, none⟩)] w (NumR (strictF f a b) w) := by
 have HN := hide (show strictF f a b = some (-9223372036854775808) by unfold strictF; rw [if_pos h])
 by_cases h0 : a = -9223372036854775808
 ·have e1 : (a == -9223372036854775808) = true := by simp [h0]
  clear h h0
  go_enter Tryz.func118, Tryz.ntmps118
  go_wp2_with fail
  exact bodyPost_ret (v := .tuple #[.int .i64 (-9223372036854775808), .bool true]) (by simp [results, Tryz.results118, go_sem]) rfl ⟨gb_refl w none, by rw [HN.out]⟩
 ·have h1 : b = -9223372036854775808 := h.resolve_left h0
  have e1 : (a == -9223372036854775808) = false := int_beq_f h0
  have e2 : (b == -9223372036854775808) = true := by simp [h1]
  clear h h0 h1
  go_enter Tryz.func118, Tryz.ntmps118
  go_wp2_with fail
  exact bodyPost_ret (v := .tuple #[.int .i64 (-9223372036854775808), .bool true]) (by simp [results, Tryz.results118, go_sem]) rfl ⟨gb_refl w none, by rw [HN.out]⟩
set_option maxHeartbeats 2000000 in
set_option maxRecDepth 100000 in
theorem strict_sum (a b : Int) (ha : I64 a) (hb : I64 b) (g : Nat) (w : World) (hc : w.cell? ⟨g, 0, none⟩ = some (.func (.func 119) #[] #[])) :
  Calls Tryz.prog 118 #[.int .i64 a, .int .i64 b, .pointer (some ⟨g, 0, none⟩)] w (NumR (strictF sumF a b) w) := by
 by_cases h : a = -9223372036854775808 ∨ b = -9223372036854775808
 ·exact strict_null sumF a b g h w
 have h0 : a ≠ -9223372036854775808 := fun e => h (.inl e)
 have h1 : b ≠ -9223372036854775808 := fun e => h (.inr e)
 have e1 := int_beq_f h0
 have e2 := int_beq_f h1
 have HN := hide (show strictF sumF a b = sumF a b by unfold strictF; rw [if_neg h])
 rcases hsum : sumF a b with _ | n
 ·rw [hsum] at HN
  have C := hide (fun w2 => (hsum ▸ sum_any a b (ha.num h0) (hb.num h1) w2 : Calls Tryz.prog 119 #[.int .i64 a, .int .i64 b] w2 (NumR none w2)))
  clear h h0 h1 ha hb hsum
  go_enter Tryz.func118, Tryz.ntmps118
  go_wp2_with (go_at_call 119; refine (C.out _).mono ?_; rintro e w1 ⟨hg1, rfl⟩; have HG := hide hg1; clear hg1)
  exact bodyPost_ret (v := .tuple #[.int .i64 0, .bool false]) (by simp [results, Tryz.results118, go_sem]) rfl ⟨HG.out, by rw [HN.out]⟩
 ·rw [hsum] at HN
  have C := hide (fun w2 => (hsum ▸ sum_any a b (ha.num h0) (hb.num h1) w2 : Calls Tryz.prog 119 #[.int .i64 a, .int .i64 b] w2 (NumR (some n) w2)))
  clear h h0 h1 ha hb hsum
  go_enter Tryz.func118, Tryz.ntmps118
  go_wp2_with (go_at_call 119; refine (C.out _).mono ?_; rintro e w1 ⟨hg1, rfl⟩; have HG := hide hg1; clear hg1)
  exact bodyPost_ret (v := .tuple #[.int .i64 n, .bool true]) (by simp [results, Tryz.results118, go_sem]) rfl ⟨HG.out, by rw [HN.out]⟩
set_option maxHeartbeats 2000000 in
set_option maxRecDepth 100000 in
theorem strict_quo (a b : Int) (ha : I64 a) (hb : I64 b) (g : Nat) (q : Nat) (w : World) (hc : w.cell? ⟨g, 0, none⟩ = some (.func (.func 144) #[] #[.pointer (some ⟨q, 0, none⟩)])) (hq : w.cell? ⟨q, 0, none⟩ = some (.int .i64 1)) :
  Calls Tryz.prog 118 #[.int .i64 a, .int .i64 b, .pointer (some ⟨g, 0, none⟩)] w (NumR (strictF quoF a b) w) := by
 by_cases h : a = -9223372036854775808 ∨ b = -9223372036854775808
 ·exact strict_null quoF a b g h w
 have h0 : a ≠ -9223372036854775808 := fun e => h (.inl e)
 have h1 : b ≠ -9223372036854775808 := fun e => h (.inr e)
 have e1 := int_beq_f h0
 have e2 := int_beq_f h1
 have HN := hide (show strictF quoF a b = some (quoI a b) by unfold strictF; rw [if_neg h]; rfl)
 have C := hide (quo_any a b (ha.num h0) (hb.num h1) q w hq)
 clear h h0 h1 ha hb hq
 generalize quoI a b = n at *
 go_enter Tryz.func118, Tryz.ntmps118
 go_wp2_with (go_at_call 144; refine (C.out).mono ?_; rintro e w1 ⟨rfl, hg1⟩; have HG := hide (hg1); clear hg1)
 exact bodyPost_ret (v := .tuple #[.int .i64 n, .bool true]) (by simp [results, Tryz.results118, go_sem]) rfl ⟨HG.out, by rw [HN.out]⟩
set_option maxHeartbeats 2000000 in
set_option maxRecDepth 100000 in
theorem strict_add (p : Nat) (w : World) (hp : w.cell? ⟨p, 0, none⟩ = some (.func (.func 88) #[] #[])) :
  Calls Tryz.prog 117 #[.agg #[.int .i64 2, .int .i64 2], .pointer (some ⟨p, 0, none⟩)] w (StrR (strictF sumF) w) := by
 obtain ⟨wa, hwa⟩ : ∃ wa, wa = (w.alloc (.cells #[.int .i64 2, .int .i64 2] 77)).alloc (.cells #[.int .i64 0, Value.nilFunc, Value.nilFunc] 73) := ⟨_, rfl⟩
 obtain ⟨hp1, hr, hg, hs⟩ := PairB.mk_ w
 rw [← hwa] at hp1 hr hg hs
 have HR := hide hr
 have HG := hide hg
 have HS := hide hs
 have HWE := hide hwa
 have x0 : wa.cell? ⟨w.heap.size, 0, none⟩ = some (.int .i64 2) := by rw [blk_cell hp1]; rfl
 have x1 : wa.cell? ⟨w.heap.size, 1, none⟩ = some (.int .i64 2) := by rw [blk_cell hp1]; rfl
 have hp := cell_gb hp hg
 have x0a := x0
 have x1a := x1
 have hpa := hp
 rw [hwa] at x0a x1a hpa
 clear hp1 hr hg hwa hs
 go_enter Tryz.func117, Tryz.ntmps117
 go_wp2_with fail
 rw [← HWE.out]
 go_wp2_with (go_at_call 88; refine (add_ints _).mono ?_; rintro e w1 ⟨rfl, hg1⟩; have HG1 := hide hg1; have hgW := gb_alloc (gb_alloc hg1 (.cells #[.int .i64 2, .func (.func 118) #[] #[.pointer (some ⟨w1.heap.size + 1, 0, none⟩)], Value.nilFunc] 73)) (.cells #[.func (.func 119) #[] #[]] 70); have HGW := hide (gb_trans HG.out hgW (.inl rfl)); have hr2 := (hgW.block _ (blk_lt HR.out) (by simp)).trans HR.out; have HR2 := hide hr2; have z0 := blk_frozen hr2 0; have z1 := blk_frozen hr2 1; have z2 := blk_frozen hr2 2; have y0 : ((w1.alloc (.cells #[.int .i64 2, .func (.func 118) #[] #[.pointer (some ⟨w1.heap.size + 1, 0, none⟩)], Value.nilFunc] 73)).alloc (.cells #[.func (.func 119) #[] #[]] 70)).cell? ⟨w.heap.size + 1, 0, none⟩ = some (.int .i64 0) := (by { rw [blk_cell hr2]; rfl }); have y1 : ((w1.alloc (.cells #[.int .i64 2, .func (.func 118) #[] #[.pointer (some ⟨w1.heap.size + 1, 0, none⟩)], Value.nilFunc] 73)).alloc (.cells #[.func (.func 119) #[] #[]] 70)).cell? ⟨w.heap.size + 1, 1, none⟩ = some Value.nilFunc := (by { rw [blk_cell hr2]; rfl }); have y2 : ((w1.alloc (.cells #[.int .i64 2, .func (.func 118) #[] #[.pointer (some ⟨w1.heap.size + 1, 0, none⟩)], Value.nilFunc] 73)).alloc (.cells #[.func (.func 119) #[] #[]] 70)).cell? ⟨w.heap.size + 1, 2, none⟩ = some Value.nilFunc := (by { rw [blk_cell hr2]; rfl }); have HNE := hide (show w1.heap.size + 1 ≠ w.heap.size + 1 by have := hg1.size; have := HS.out; omega); have HSZ := hide (show w.heap.size ≤ w1.heap.size + 1 by have := hg1.size; have := HS.out; omega); clear hg1 hgW hr2)
 have hb := rule_put HR2.out (.func (.func 118) #[] #[.pointer (some ⟨w1.heap.size + 1, 0, none⟩)])
 have m0 : (((((w1.alloc (.cells #[.int .i64 2, .func (.func 118) #[] #[.pointer (some ⟨w1.heap.size + 1, 0, none⟩)], Value.nilFunc] 73)).alloc (.cells #[.func (.func 119) #[] #[]] 70)).setCell ⟨w.heap.size + 1, 0, none⟩ (.int .i64 2)).setCell ⟨w.heap.size + 1, 1, none⟩ (.func (.func 118) #[] #[.pointer (some ⟨w1.heap.size + 1, 0, none⟩)])).setCell ⟨w.heap.size + 1, 2, none⟩ Value.nilFunc).cell? ⟨w.heap.size + 1, 0, none⟩ = some (.int .i64 2) := by rw [blk_cell hb]; rfl
 have m1 : (((((w1.alloc (.cells #[.int .i64 2, .func (.func 118) #[] #[.pointer (some ⟨w1.heap.size + 1, 0, none⟩)], Value.nilFunc] 73)).alloc (.cells #[.func (.func 119) #[] #[]] 70)).setCell ⟨w.heap.size + 1, 0, none⟩ (.int .i64 2)).setCell ⟨w.heap.size + 1, 1, none⟩ (.func (.func 118) #[] #[.pointer (some ⟨w1.heap.size + 1, 0, none⟩)])).setCell ⟨w.heap.size + 1, 2, none⟩ Value.nilFunc).cell? ⟨w.heap.size + 1, 1, none⟩ = some (.func (.func 118) #[] #[.pointer (some ⟨w1.heap.size + 1, 0, none⟩)]) := by rw [blk_cell hb]; rfl
 have m2 : (((((w1.alloc (.cells #[.int .i64 2, .func (.func 118) #[] #[.pointer (some ⟨w1.heap.size + 1, 0, none⟩)], Value.nilFunc] 73)).alloc (.cells #[.func (.func 119) #[] #[]] 70)).setCell ⟨w.heap.size + 1, 0, none⟩ (.int .i64 2)).setCell ⟨w.heap.size + 1, 1, none⟩ (.func (.func 118) #[] #[.pointer (some ⟨w1.heap.size + 1, 0, none⟩)])).setCell ⟨w.heap.size + 1, 2, none⟩ Value.nilFunc).cell? ⟨w.heap.size + 1, 2, none⟩ = some Value.nilFunc := by rw [blk_cell hb]; rfl
 refine bodyPost_ret (v := .tuple #[.agg #[.int .i64 2, .func (.func 118) #[] #[.pointer (some ⟨w1.heap.size + 1, 0, none⟩)], Value.nilFunc], .bool true]) (by simp [results, Tryz.results117, go_sem, m0, m1, m2]) rfl ?_
 refine ⟨w1.heap.size + 1, rfl, ?_, rule_gb (w0 := w) HGW.out (Nat.le_succ _) (.func (.func 118) #[] #[.pointer (some ⟨w1.heap.size + 1, 0, none⟩)])⟩
 intro w2 hw2 a b ha hb2
 have hc : ((w1.alloc (.cells #[.int .i64 2, .func (.func 118) #[] #[.pointer (some ⟨w1.heap.size + 1, 0, none⟩)], Value.nilFunc] 73)).alloc (.cells #[.func (.func 119) #[] #[]] 70)).cell? ⟨w1.heap.size + 1, 0, none⟩ = some (.func (.func 119) #[] #[]) := by have hbx := heap_alloc_new (w1.alloc (.cells #[.int .i64 2, .func (.func 118) #[] #[.pointer (some ⟨w1.heap.size + 1, 0, none⟩)], Value.nilFunc] 73)) (.cells #[.func (.func 119) #[] #[]] 70); rw [World.size_alloc] at hbx; rw [blk_cell hbx]; rfl
 have hc2 := (rule_other (.func (.func 118) #[] #[.pointer (some ⟨w1.heap.size + 1, 0, none⟩)]) HNE.out).trans hc
 exact strict_sum a b ha hb2 _ w2 (cell_own hc2 (by intro n h e; cases e) HSZ.out hw2)
set_option maxHeartbeats 2000000 in
set_option maxRecDepth 100000 in
theorem strict_divide (p : Nat) (w : World) (hp : w.cell? ⟨p, 0, none⟩ = some (.func (.func 91) #[] #[])) :
  Calls Tryz.prog 117 #[.agg #[.int .i64 2, .int .i64 2], .pointer (some ⟨p, 0, none⟩)] w (StrR (strictF quoF) w) := by
 obtain ⟨wa, hwa⟩ : ∃ wa, wa = (w.alloc (.cells #[.int .i64 2, .int .i64 2] 77)).alloc (.cells #[.int .i64 0, Value.nilFunc, Value.nilFunc] 73) := ⟨_, rfl⟩
 obtain ⟨hp1, hr, hg, hs⟩ := PairB.mk_ w
 rw [← hwa] at hp1 hr hg hs
 have HR := hide hr
 have HG := hide hg
 have HS := hide hs
 have HWE := hide hwa
 have x0 : wa.cell? ⟨w.heap.size, 0, none⟩ = some (.int .i64 2) := by rw [blk_cell hp1]; rfl
 have x1 : wa.cell? ⟨w.heap.size, 1, none⟩ = some (.int .i64 2) := by rw [blk_cell hp1]; rfl
 have hp := cell_gb hp hg
 have x0a := x0
 have x1a := x1
 have hpa := hp
 rw [hwa] at x0a x1a hpa
 clear hp1 hr hg hwa hs
 go_enter Tryz.func117, Tryz.ntmps117
 go_wp2_with fail
 rw [← HWE.out]
 go_wp2_with (go_at_call 91; refine (divide_ints _).mono ?_; rintro e w1 ⟨q, rfl, hq, hqs, hg1⟩; have HG1 := hide hg1; have HQ := hide hq; have HQS := hide (show w.heap.size ≤ q by have := HS.out; omega); have HNE2 := hide (show q ≠ w.heap.size + 1 by have := HS.out; omega); have hgW := gb_alloc (gb_alloc hg1 (.cells #[.int .i64 2, .func (.func 118) #[] #[.pointer (some ⟨w1.heap.size + 1, 0, none⟩)], Value.nilFunc] 73)) (.cells #[.func (.func 144) #[] #[.pointer (some ⟨q, 0, none⟩)]] 70); have HGW := hide (gb_trans HG.out hgW (.inl rfl)); have hr2 := (hgW.block _ (blk_lt HR.out) (by simp)).trans HR.out; have HR2 := hide hr2; have z0 := blk_frozen hr2 0; have z1 := blk_frozen hr2 1; have z2 := blk_frozen hr2 2; have y0 : ((w1.alloc (.cells #[.int .i64 2, .func (.func 118) #[] #[.pointer (some ⟨w1.heap.size + 1, 0, none⟩)], Value.nilFunc] 73)).alloc (.cells #[.func (.func 144) #[] #[.pointer (some ⟨q, 0, none⟩)]] 70)).cell? ⟨w.heap.size + 1, 0, none⟩ = some (.int .i64 0) := (by { rw [blk_cell hr2]; rfl }); have y1 : ((w1.alloc (.cells #[.int .i64 2, .func (.func 118) #[] #[.pointer (some ⟨w1.heap.size + 1, 0, none⟩)], Value.nilFunc] 73)).alloc (.cells #[.func (.func 144) #[] #[.pointer (some ⟨q, 0, none⟩)]] 70)).cell? ⟨w.heap.size + 1, 1, none⟩ = some Value.nilFunc := (by { rw [blk_cell hr2]; rfl }); have y2 : ((w1.alloc (.cells #[.int .i64 2, .func (.func 118) #[] #[.pointer (some ⟨w1.heap.size + 1, 0, none⟩)], Value.nilFunc] 73)).alloc (.cells #[.func (.func 144) #[] #[.pointer (some ⟨q, 0, none⟩)]] 70)).cell? ⟨w.heap.size + 1, 2, none⟩ = some Value.nilFunc := (by { rw [blk_cell hr2]; rfl }); have HNE := hide (show w1.heap.size + 1 ≠ w.heap.size + 1 by have := hg1.size; have := HS.out; omega); have HSZ := hide (show w.heap.size ≤ w1.heap.size + 1 by have := hg1.size; have := HS.out; omega); clear hg1 hgW hr2 hq hqs)
 have hb := rule_put HR2.out (.func (.func 118) #[] #[.pointer (some ⟨w1.heap.size + 1, 0, none⟩)])
 have m0 : (((((w1.alloc (.cells #[.int .i64 2, .func (.func 118) #[] #[.pointer (some ⟨w1.heap.size + 1, 0, none⟩)], Value.nilFunc] 73)).alloc (.cells #[.func (.func 144) #[] #[.pointer (some ⟨q, 0, none⟩)]] 70)).setCell ⟨w.heap.size + 1, 0, none⟩ (.int .i64 2)).setCell ⟨w.heap.size + 1, 1, none⟩ (.func (.func 118) #[] #[.pointer (some ⟨w1.heap.size + 1, 0, none⟩)])).setCell ⟨w.heap.size + 1, 2, none⟩ Value.nilFunc).cell? ⟨w.heap.size + 1, 0, none⟩ = some (.int .i64 2) := by rw [blk_cell hb]; rfl
 have m1 : (((((w1.alloc (.cells #[.int .i64 2, .func (.func 118) #[] #[.pointer (some ⟨w1.heap.size + 1, 0, none⟩)], Value.nilFunc] 73)).alloc (.cells #[.func (.func 144) #[] #[.pointer (some ⟨q, 0, none⟩)]] 70)).setCell ⟨w.heap.size + 1, 0, none⟩ (.int .i64 2)).setCell ⟨w.heap.size + 1, 1, none⟩ (.func (.func 118) #[] #[.pointer (some ⟨w1.heap.size + 1, 0, none⟩)])).setCell ⟨w.heap.size + 1, 2, none⟩ Value.nilFunc).cell? ⟨w.heap.size + 1, 1, none⟩ = some (.func (.func 118) #[] #[.pointer (some ⟨w1.heap.size + 1, 0, none⟩)]) := by rw [blk_cell hb]; rfl
 have m2 : (((((w1.alloc (.cells #[.int .i64 2, .func (.func 118) #[] #[.pointer (some ⟨w1.heap.size + 1, 0, none⟩)], Value.nilFunc] 73)).alloc (.cells #[.func (.func 144) #[] #[.pointer (some ⟨q, 0, none⟩)]] 70)).setCell ⟨w.heap.size + 1, 0, none⟩ (.int .i64 2)).setCell ⟨w.heap.size + 1, 1, none⟩ (.func (.func 118) #[] #[.pointer (some ⟨w1.heap.size + 1, 0, none⟩)])).setCell ⟨w.heap.size + 1, 2, none⟩ Value.nilFunc).cell? ⟨w.heap.size + 1, 2, none⟩ = some Value.nilFunc := by rw [blk_cell hb]; rfl
 refine bodyPost_ret (v := .tuple #[.agg #[.int .i64 2, .func (.func 118) #[] #[.pointer (some ⟨w1.heap.size + 1, 0, none⟩)], Value.nilFunc], .bool true]) (by simp [results, Tryz.results117, go_sem, m0, m1, m2]) rfl ?_
 refine ⟨w1.heap.size + 1, rfl, ?_, rule_gb (w0 := w) HGW.out (Nat.le_succ _) (.func (.func 118) #[] #[.pointer (some ⟨w1.heap.size + 1, 0, none⟩)])⟩
 intro w2 hw2 a b ha hb2
 have hc : ((w1.alloc (.cells #[.int .i64 2, .func (.func 118) #[] #[.pointer (some ⟨w1.heap.size + 1, 0, none⟩)], Value.nilFunc] 73)).alloc (.cells #[.func (.func 144) #[] #[.pointer (some ⟨q, 0, none⟩)]] 70)).cell? ⟨w1.heap.size + 1, 0, none⟩ = some (.func (.func 144) #[] #[.pointer (some ⟨q, 0, none⟩)]) := by have hbx := heap_alloc_new (w1.alloc (.cells #[.int .i64 2, .func (.func 118) #[] #[.pointer (some ⟨w1.heap.size + 1, 0, none⟩)], Value.nilFunc] 73)) (.cells #[.func (.func 144) #[] #[.pointer (some ⟨q, 0, none⟩)]] 70); rw [World.size_alloc] at hbx; rw [blk_cell hbx]; rfl
 have hc2 := (rule_other (.func (.func 118) #[] #[.pointer (some ⟨w1.heap.size + 1, 0, none⟩)]) HNE.out).trans hc
 have hq1 := cell_gb HQ.out (gb_alloc (gb_alloc (gb_refl w1 none) (.cells #[.int .i64 2, .func (.func 118) #[] #[.pointer (some ⟨w1.heap.size + 1, 0, none⟩)], Value.nilFunc] 73)) (.cells #[.func (.func 144) #[] #[.pointer (some ⟨q, 0, none⟩)]] 70))
 have hq2 := (rule_other (.func (.func 118) #[] #[.pointer (some ⟨w1.heap.size + 1, 0, none⟩)]) HNE2.out).trans hq1
 exact strict_quo a b ha hb2 _ q w2 (cell_own hc2 (by intro n h e; cases e) HSZ.out hw2) (cell_own hq2 (by intro n h e; cases e; exact h rfl) HQS.out hw2)
end Go.Proofs.YtbmgodmfpoappaaGreat
