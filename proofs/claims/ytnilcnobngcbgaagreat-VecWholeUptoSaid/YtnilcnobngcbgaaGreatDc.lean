/-
  vec's rules of two ints: divide, modulo, add; strict.
-/
import Derived.Test.YtnilcnobngcbgaaGreatDb
import Derived.Laws.EntriesVeiled
import Derived.Shelf.Abstract
namespace Go.Proofs.YtnilcnobngcbgaaGreat
open Go.RowKit
attribute [local go_sem ↓] Go.wp_at_zero Go.wp_at_succ

set_option maxHeartbeats 1000000 in
theorem both_any (t : Int) (w : World) : Calls Tryz.prog 103 #[.int .i64 t] w fun e w' => e = .returned (.agg #[.int .i64 t, .int .i64 t]) ∧ w.grownBy w' none := by
  go_enter Tryz.func103, Tryz.ntmps103
  go_wp2_with fail
  refine bodyPost_ret (v := .agg #[.int .i64 t, .int .i64 t]) (by simp [results, Tryz.results103, go_sem]) rfl ⟨rfl, ?_⟩
  exact gb_alloc (gb_refl w none) _
set_option maxHeartbeats 1000000 in
theorem quotient_any (k : Int) (w : World) : Calls Tryz.prog 105 #[.int .i64 k] w fun e w' => ∃ g, e = .returned (.func (.func 127) #[] #[.pointer (some ⟨g, 0, none⟩)]) ∧ w'.cell? ⟨g, 0, none⟩ = some (.int .i64 k) ∧ w.heap.size ≤ g ∧ w.grownBy w' none := by
  go_enter Tryz.func105, Tryz.ntmps105
  go_wp2_with fail
  go_ret
  exact ⟨w.heap.size, rfl, by simp, Nat.le_refl _, gb_alloc (gb_refl w none) _⟩
/-- What a function of two ints gives. -/
def NumR (r : Option Int) (w2 : World) (e : Ending) (w' : World) : Prop := w2.grownBy w' none ∧ match r with
  | some n => e = .returned (.tuple #[.int .i64 n, .bool true])
  | none => e = .returned (.tuple #[.int .i64 0, .bool false])
theorem pair_eq (w : World) : (Op.equalIn 10000 72 (.agg #[.int .i64 2, .int .i64 2]) (.agg #[.int .i64 2, .int .i64 2])).run Tryz.prog w = .ok true w := by kernel_rfl
theorem pair_42 (w : World) : (Op.equalIn 10000 72 (.agg #[.int .i64 2, .int .i64 2]) (.agg #[.int .i64 4, .int .i64 2])).run Tryz.prog w = .ok false w := by kernel_rfl
theorem pair_24 (w : World) : (Op.equalIn 10000 72 (.agg #[.int .i64 2, .int .i64 2]) (.agg #[.int .i64 2, .int .i64 4])).run Tryz.prog w = .ok false w := by kernel_rfl
/-- A rule of ints: of the type 2, by the function v. -/
def RuleE (v : Value) (e : Ending) : Prop := e = .returned (.tuple #[.agg #[.int .i64 2, v, Value.nilFunc], .bool true])
/-- Three cells of a rule in a block of one's own. -/
theorem rule_put {w : World} {g : Nat} {c0 c1 c2 : Value} (h : w.heap[g]? = some (.cells #[c0, c1, c2] 68 (0, 0))) (v : Value) :
    (((w.setCell ⟨g, 0, none⟩ (.int .i64 2)).setCell ⟨g, 1, none⟩ v).setCell ⟨g, 2, none⟩ Value.nilFunc).heap[g]? = some (.cells #[.int .i64 2, v, Value.nilFunc] 68 (0, 0)) := by
  rw [blk_set (blk_set (blk_set h 0 _) 1 _) 2 _]
  rfl
theorem rule_gb {w0 w : World} {g : Nat} (h : w0.grownBy w none) (hg : w0.heap.size ≤ g) (v : Value) : w0.grownBy (((w.setCell ⟨g, 0, none⟩ (.int .i64 2)).setCell ⟨g, 1, none⟩ v).setCell ⟨g, 2, none⟩ Value.nilFunc) none :=
  gb_setCell (gb_setCell (gb_setCell h (.inr hg) _) (.inr hg) _) (.inr hg) _
theorem rule_other {w : World} {g b o : Nat} (v : Value) (hne : b ≠ g) : (((w.setCell ⟨g, 0, none⟩ (.int .i64 2)).setCell ⟨g, 1, none⟩ v).setCell ⟨g, 2, none⟩ Value.nilFunc).cell? ⟨b, o, none⟩ = w.cell? ⟨b, o, none⟩ := by
  have k : ∀ (w : World) (i : Nat) (u : Value), (w.setCell ⟨g, i, none⟩ u).heap[b]? = w.heap[b]? := fun w i u => Below.heap_setCell w ⟨g, i, none⟩ u b (fun e => hne e)
  exact World.cell?_of_block (a := ⟨b, o, none⟩) (by rw [k, k, k])
/-- What stands at the beginning of these functions: the pair and the result, in boxes. -/
structure PairB (w wa : World) : Prop where
  p : wa.heap[w.heap.size]? = some (.cells #[.int .i64 2, .int .i64 2] 72 (0, 0))
  r : wa.heap[w.heap.size + 1]? = some (.cells #[.int .i64 0, Value.nilFunc, Value.nilFunc] 68 (0, 0))
  g : w.grownBy wa none
  s : wa.heap.size = w.heap.size + 2
theorem PairB.mk_ (w : World) : PairB w ((w.alloc (.cells #[.int .i64 2, .int .i64 2] 72)).alloc (.cells #[.int .i64 0, Value.nilFunc, Value.nilFunc] 68)) :=
  ⟨((gb_alloc (gb_refl (w.alloc (.cells #[.int .i64 2, .int .i64 2] 72)) none) _).block _ (by simp) (by simp)).trans (heap_alloc_new w _), by have := heap_alloc_new (w.alloc (.cells #[.int .i64 2, .int .i64 2] 72)) (.cells #[.int .i64 0, Value.nilFunc, Value.nilFunc] 68); rwa [World.size_alloc] at this, gb_alloc (gb_alloc (gb_refl w none) _) _, by simp⟩

set_option maxHeartbeats 2000000 in
set_option maxRecDepth 100000 in
theorem divide_ints (w : World) : Calls Tryz.prog 72 #[.agg #[.int .i64 2, .int .i64 2]] w fun e w' => ∃ g, RuleE (.func (.func 127) #[] #[.pointer (some ⟨g, 0, none⟩)]) e ∧ w'.cell? ⟨g, 0, none⟩ = some (.int .i64 1) ∧ w.heap.size ≤ g ∧ w.grownBy w' none := by
  obtain ⟨wa, hwa⟩ : ∃ wa, wa = (w.alloc (.cells #[.int .i64 2, .int .i64 2] 72)).alloc (.cells #[.int .i64 0, Value.nilFunc, Value.nilFunc] 68) := ⟨_, rfl⟩
  obtain ⟨hp, hr, hg, hs⟩ := PairB.mk_ w
  rw [← hwa] at hp hr hg hs
  have HP := hide hp
  have HR := hide hr
  have HG := hide hg
  have HS := hide hs
  have HWE := hide hwa
  have p1 := pair_eq
  have p2 := pair_42
  have p3 := pair_24
  have x0 : wa.cell? ⟨w.heap.size, 0, none⟩ = some (.int .i64 2) := by rw [blk_cell hp]; rfl
  have x1 : wa.cell? ⟨w.heap.size, 1, none⟩ = some (.int .i64 2) := by rw [blk_cell hp]; rfl
  clear hp hr hg hwa hs
  go_enter Tryz.func72, Tryz.ntmps72
  go_wp2_with fail
  rw [← HWE.out]
  go_wp2_with (first
    | (go_at_call 103; refine (both_any 2 _).mono ?_; rintro e w1 ⟨rfl, hg1⟩; have HG1 := hide (hg1); have x0 := cell_gb x0 hg1; have x1 := cell_gb x1 hg1; skip; clear hg1)
    | (go_at_call 105; refine (quotient_any 1 _).mono ?_; rintro e w2 ⟨g, rfl, hc2, hgs, hg2⟩; have HGS := hide hgs; have HG2 := hide (gb_trans HG1.out hg2 (.inl rfl)); have HC2 := hide hc2; have hr2 := (HG2.out.block _ (blk_lt HR.out) (by simp)).trans HR.out; have HR2 := hide hr2; have z0 := blk_frozen hr2 0; have z1 := blk_frozen hr2 1; have z2 := blk_frozen hr2 2; have y0 : w2.cell? ⟨w.heap.size + 1, 0, none⟩ = some (.int .i64 0) := (by { rw [blk_cell hr2]; rfl }); have y1 : w2.cell? ⟨w.heap.size + 1, 1, none⟩ = some Value.nilFunc := (by { rw [blk_cell hr2]; rfl }); have y2 : w2.cell? ⟨w.heap.size + 1, 2, none⟩ = some Value.nilFunc := (by { rw [blk_cell hr2]; rfl }); clear hr2; clear hg2 hc2 hgs))
  have hb := rule_put HR2.out (.func (.func 127) #[] #[.pointer (some ⟨g, 0, none⟩)])
  have m0 : (((w2.setCell ⟨w.heap.size + 1, 0, none⟩ (.int .i64 2)).setCell ⟨w.heap.size + 1, 1, none⟩ (.func (.func 127) #[] #[.pointer (some ⟨g, 0, none⟩)])).setCell ⟨w.heap.size + 1, 2, none⟩ Value.nilFunc).cell? ⟨w.heap.size + 1, 0, none⟩ = some (.int .i64 2) := by rw [blk_cell hb]; rfl
  have m1 : (((w2.setCell ⟨w.heap.size + 1, 0, none⟩ (.int .i64 2)).setCell ⟨w.heap.size + 1, 1, none⟩ (.func (.func 127) #[] #[.pointer (some ⟨g, 0, none⟩)])).setCell ⟨w.heap.size + 1, 2, none⟩ Value.nilFunc).cell? ⟨w.heap.size + 1, 1, none⟩ = some (.func (.func 127) #[] #[.pointer (some ⟨g, 0, none⟩)]) := by rw [blk_cell hb]; rfl
  have m2 : (((w2.setCell ⟨w.heap.size + 1, 0, none⟩ (.int .i64 2)).setCell ⟨w.heap.size + 1, 1, none⟩ (.func (.func 127) #[] #[.pointer (some ⟨g, 0, none⟩)])).setCell ⟨w.heap.size + 1, 2, none⟩ Value.nilFunc).cell? ⟨w.heap.size + 1, 2, none⟩ = some Value.nilFunc := by rw [blk_cell hb]; rfl
  refine bodyPost_ret (v := .tuple #[.agg #[.int .i64 2, .func (.func 127) #[] #[.pointer (some ⟨g, 0, none⟩)], Value.nilFunc], .bool true]) (by simp [results, Tryz.results72, go_sem, m0, m1, m2]) rfl ?_
  have hgw := rule_gb (w0 := w) (gb_trans HG.out HG2.out (.inl rfl)) (Nat.le_succ _) (.func (.func 127) #[] #[.pointer (some ⟨g, 0, none⟩)])
  exact ⟨g, rfl, (rule_other (.func (.func 127) #[] #[.pointer (some ⟨g, 0, none⟩)]) (show g ≠ w.heap.size + 1 by have := HGS.out; have := HG1.out.size; have := HS.out; omega)).trans HC2.out, by have := HGS.out; have := HG1.out.size; have := HS.out; omega, hgw⟩
set_option maxHeartbeats 2000000 in
set_option maxRecDepth 100000 in
theorem modulo_ints (w : World) : Calls Tryz.prog 73 #[.agg #[.int .i64 2, .int .i64 2]] w fun e w' => RuleE (.func (.func 35) #[] #[]) e ∧ w.grownBy w' none := by
  obtain ⟨wa, hwa⟩ : ∃ wa, wa = (w.alloc (.cells #[.int .i64 2, .int .i64 2] 72)).alloc (.cells #[.int .i64 0, Value.nilFunc, Value.nilFunc] 68) := ⟨_, rfl⟩
  obtain ⟨hp, hr, hg, hs⟩ := PairB.mk_ w
  rw [← hwa] at hp hr hg hs
  have HP := hide hp
  have HR := hide hr
  have HG := hide hg
  have HS := hide hs
  have HWE := hide hwa
  have p1 := pair_eq
  have p2 := pair_42
  have p3 := pair_24
  have x0 : wa.cell? ⟨w.heap.size, 0, none⟩ = some (.int .i64 2) := by rw [blk_cell hp]; rfl
  have x1 : wa.cell? ⟨w.heap.size, 1, none⟩ = some (.int .i64 2) := by rw [blk_cell hp]; rfl
  clear hp hr hg hwa hs
  go_enter Tryz.func73, Tryz.ntmps73
  go_wp2_with fail
  rw [← HWE.out]
  go_wp2_with (go_at_call 103; refine (both_any 2 _).mono ?_; rintro e w1 ⟨rfl, hg1⟩; have HG1 := hide (hg1); have x0 := cell_gb x0 hg1; have x1 := cell_gb x1 hg1; have hr2 := (HG1.out.block _ (blk_lt HR.out) (by simp)).trans HR.out; have HR2 := hide hr2; have z0 := blk_frozen hr2 0; have z1 := blk_frozen hr2 1; have z2 := blk_frozen hr2 2; have y0 : w1.cell? ⟨w.heap.size + 1, 0, none⟩ = some (.int .i64 0) := (by { rw [blk_cell hr2]; rfl }); have y1 : w1.cell? ⟨w.heap.size + 1, 1, none⟩ = some Value.nilFunc := (by { rw [blk_cell hr2]; rfl }); have y2 : w1.cell? ⟨w.heap.size + 1, 2, none⟩ = some Value.nilFunc := (by { rw [blk_cell hr2]; rfl }); clear hr2; clear hg1)
  have hb := rule_put HR2.out (.func (.func 35) #[] #[])
  have m0 : (((w1.setCell ⟨w.heap.size + 1, 0, none⟩ (.int .i64 2)).setCell ⟨w.heap.size + 1, 1, none⟩ (.func (.func 35) #[] #[])).setCell ⟨w.heap.size + 1, 2, none⟩ Value.nilFunc).cell? ⟨w.heap.size + 1, 0, none⟩ = some (.int .i64 2) := by rw [blk_cell hb]; rfl
  have m1 : (((w1.setCell ⟨w.heap.size + 1, 0, none⟩ (.int .i64 2)).setCell ⟨w.heap.size + 1, 1, none⟩ (.func (.func 35) #[] #[])).setCell ⟨w.heap.size + 1, 2, none⟩ Value.nilFunc).cell? ⟨w.heap.size + 1, 1, none⟩ = some (.func (.func 35) #[] #[]) := by rw [blk_cell hb]; rfl
  have m2 : (((w1.setCell ⟨w.heap.size + 1, 0, none⟩ (.int .i64 2)).setCell ⟨w.heap.size + 1, 1, none⟩ (.func (.func 35) #[] #[])).setCell ⟨w.heap.size + 1, 2, none⟩ Value.nilFunc).cell? ⟨w.heap.size + 1, 2, none⟩ = some Value.nilFunc := by rw [blk_cell hb]; rfl
  refine bodyPost_ret (v := .tuple #[.agg #[.int .i64 2, .func (.func 35) #[] #[], Value.nilFunc], .bool true]) (by simp [results, Tryz.results73, go_sem, m0, m1, m2]) rfl ?_
  have hgw := rule_gb (w0 := w) (gb_trans HG.out HG1.out (.inl rfl)) (Nat.le_succ _) (.func (.func 35) #[] #[])
  exact ⟨rfl, hgw⟩

/-- The sum, where it is a number. -/
def sumF (a b : Int) : Option Int := if -9223372036854775807 ≤ a + b ∧ a + b ≤ 9223372036854775807 then some (a + b) else none
set_option maxHeartbeats 2000000 in
set_option maxRecDepth 100000 in
theorem sum_any (a b : Int) (ha : Num64 a) (hb : Num64 b) (w : World) : Calls Tryz.prog 100 #[.int .i64 a, .int .i64 b] w (NumR (sumF a b) w) := by
  by_cases hs : -9223372036854775807 ≤ a + b ∧ a + b ≤ 9223372036854775807
  · refine (sum_ok a b hs w).mono fun e w' h => ⟨h.2 ▸ gb_refl w none, ?_⟩
    unfold sumF
    rw [if_pos hs]
    exact h.1
  · have HN := hide (show sumF a b = none by unfold sumF; rw [if_neg hs])
    have ha1 := ha.1
    have ha2 := ha.2
    have hb1 := hb.1
    have hb2 := hb.2
    by_cases hu : IntKind.i64.wrap (a + b) = -9223372036854775808
    · have q1 := hu
      clear hs ha hb ha1 ha2 hb1 hb2 hu
      go_enter Tryz.func100, Tryz.ntmps100
      go_wp2_with fail
      exact bodyPost_ret (v := .tuple #[.int .i64 0, .bool false]) (by simp [results, Tryz.results100, go_sem]) rfl ⟨gb_refl w none, by rw [HN.out]⟩
    · obtain ⟨m, hme⟩ : ∃ m, m = IntKind.i64.wrap (a + b) := ⟨_, rfl⟩
      have q1 : IntKind.i64.wrap (a + b) = m := hme.symm
      rw [IntKind.wrap_i64] at hme hu
      have e0 : (m == -9223372036854775808) = false := int_beq_f (by omega)
      by_cases hb0 : 0 < b
      · have d1 : decide (a < m) = false := decide_eq_false (by omega)
        have d2 : decide (0 < b) = true := decide_eq_true hb0
        clear hs ha hb ha1 ha2 hb1 hb2 hu hme hb0
        go_enter Tryz.func100, Tryz.ntmps100
        go_wp2_with fail
        exact bodyPost_ret (v := .tuple #[.int .i64 0, .bool false]) (by simp [results, Tryz.results100, go_sem]) rfl ⟨gb_refl w none, by rw [HN.out]⟩
      · have d1 : decide (a < m) = true := decide_eq_true (by omega)
        have d2 : decide (0 < b) = false := decide_eq_false hb0
        clear hs ha hb ha1 ha2 hb1 hb2 hu hme hb0
        go_enter Tryz.func100, Tryz.ntmps100
        go_wp2_with fail
        exact bodyPost_ret (v := .tuple #[.int .i64 0, .bool false]) (by simp [results, Tryz.results100, go_sem]) rfl ⟨gb_refl w none, by rw [HN.out]⟩
set_option maxHeartbeats 2000000 in
set_option maxRecDepth 100000 in
theorem alike_sum (w : World) : Calls Tryz.prog 101 #[.func (.func 100) #[] #[], .agg #[.int .i64 2, .int .i64 2]] w fun e w' => RuleE (.func (.func 100) #[] #[]) e ∧ w.grownBy w' none := by
  obtain ⟨wa, hwa⟩ : ∃ wa, wa = (w.alloc (.cells #[.int .i64 2, .int .i64 2] 72)).alloc (.cells #[.int .i64 0, Value.nilFunc, Value.nilFunc] 68) := ⟨_, rfl⟩
  obtain ⟨hp, hr, hg, hs⟩ := PairB.mk_ w
  rw [← hwa] at hp hr hg hs
  have HP := hide hp
  have HR := hide hr
  have HG := hide hg
  have HS := hide hs
  have HWE := hide hwa
  have p1 := pair_eq
  have p2 := pair_42
  have p3 := pair_24
  have x0 : wa.cell? ⟨w.heap.size, 0, none⟩ = some (.int .i64 2) := by rw [blk_cell hp]; rfl
  have x1 : wa.cell? ⟨w.heap.size, 1, none⟩ = some (.int .i64 2) := by rw [blk_cell hp]; rfl
  clear hp hr hg hwa hs
  go_enter Tryz.func101, Tryz.ntmps101
  go_wp2_with fail
  rw [← HWE.out]
  go_wp2_with (go_at_call 103; refine (both_any 2 _).mono ?_; rintro e w1 ⟨rfl, hg1⟩; have HG1 := hide (hg1); have x0 := cell_gb x0 hg1; have x1 := cell_gb x1 hg1; have hr2 := (HG1.out.block _ (blk_lt HR.out) (by simp)).trans HR.out; have HR2 := hide hr2; have z0 := blk_frozen hr2 0; have z1 := blk_frozen hr2 1; have z2 := blk_frozen hr2 2; have y0 : w1.cell? ⟨w.heap.size + 1, 0, none⟩ = some (.int .i64 0) := (by { rw [blk_cell hr2]; rfl }); have y1 : w1.cell? ⟨w.heap.size + 1, 1, none⟩ = some Value.nilFunc := (by { rw [blk_cell hr2]; rfl }); have y2 : w1.cell? ⟨w.heap.size + 1, 2, none⟩ = some Value.nilFunc := (by { rw [blk_cell hr2]; rfl }); clear hr2; clear hg1)
  have hb := rule_put HR2.out (.func (.func 100) #[] #[])
  have m0 : (((w1.setCell ⟨w.heap.size + 1, 0, none⟩ (.int .i64 2)).setCell ⟨w.heap.size + 1, 1, none⟩ (.func (.func 100) #[] #[])).setCell ⟨w.heap.size + 1, 2, none⟩ Value.nilFunc).cell? ⟨w.heap.size + 1, 0, none⟩ = some (.int .i64 2) := by rw [blk_cell hb]; rfl
  have m1 : (((w1.setCell ⟨w.heap.size + 1, 0, none⟩ (.int .i64 2)).setCell ⟨w.heap.size + 1, 1, none⟩ (.func (.func 100) #[] #[])).setCell ⟨w.heap.size + 1, 2, none⟩ Value.nilFunc).cell? ⟨w.heap.size + 1, 1, none⟩ = some (.func (.func 100) #[] #[]) := by rw [blk_cell hb]; rfl
  have m2 : (((w1.setCell ⟨w.heap.size + 1, 0, none⟩ (.int .i64 2)).setCell ⟨w.heap.size + 1, 1, none⟩ (.func (.func 100) #[] #[])).setCell ⟨w.heap.size + 1, 2, none⟩ Value.nilFunc).cell? ⟨w.heap.size + 1, 2, none⟩ = some Value.nilFunc := by rw [blk_cell hb]; rfl
  refine bodyPost_ret (v := .tuple #[.agg #[.int .i64 2, .func (.func 100) #[] #[], Value.nilFunc], .bool true]) (by simp [results, Tryz.results101, go_sem, m0, m1, m2]) rfl ?_
  exact ⟨rfl, rule_gb (w0 := w) (gb_trans HG.out HG1.out (.inl rfl)) (Nat.le_succ _) (.func (.func 100) #[] #[])⟩
set_option maxHeartbeats 2000000 in
set_option maxRecDepth 100000 in
theorem add_ints (w : World) : Calls Tryz.prog 69 #[.agg #[.int .i64 2, .int .i64 2]] w fun e w' => RuleE (.func (.func 100) #[] #[]) e ∧ w.grownBy w' none := by
  obtain ⟨wa, hwa⟩ : ∃ wa, wa = (w.alloc (.cells #[.int .i64 2, .int .i64 2] 72)).alloc (.cells #[.int .i64 0, Value.nilFunc, Value.nilFunc] 68) := ⟨_, rfl⟩
  obtain ⟨hp, hr, hg, hs⟩ := PairB.mk_ w
  rw [← hwa] at hp hr hg hs
  have HP := hide hp
  have HR := hide hr
  have HG := hide hg
  have HS := hide hs
  have HWE := hide hwa
  have p1 := pair_eq
  have p2 := pair_42
  have p3 := pair_24
  have x0 : wa.cell? ⟨w.heap.size, 0, none⟩ = some (.int .i64 2) := by rw [blk_cell hp]; rfl
  have x1 : wa.cell? ⟨w.heap.size, 1, none⟩ = some (.int .i64 2) := by rw [blk_cell hp]; rfl
  clear hp hr hg hwa hs
  go_enter Tryz.func69, Tryz.ntmps69
  go_wp2_with fail
  rw [← HWE.out]
  go_wp2_with (go_at_call 101; refine (alike_sum _).mono ?_; rintro e w1 ⟨rfl, hg1⟩; have HG1 := hide hg1; have hr2 := (HG1.out.block _ (blk_lt HR.out) (by simp)).trans HR.out; have HR2 := hide hr2; have z0 := blk_frozen hr2 0; have z1 := blk_frozen hr2 1; have z2 := blk_frozen hr2 2; have y0 : w1.cell? ⟨w.heap.size + 1, 0, none⟩ = some (.int .i64 0) := (by { rw [blk_cell hr2]; rfl }); have y1 : w1.cell? ⟨w.heap.size + 1, 1, none⟩ = some Value.nilFunc := (by { rw [blk_cell hr2]; rfl }); have y2 : w1.cell? ⟨w.heap.size + 1, 2, none⟩ = some Value.nilFunc := (by { rw [blk_cell hr2]; rfl }); clear hr2; clear hg1)
  have hb := rule_put HR2.out (.func (.func 100) #[] #[])
  have m0 : (((w1.setCell ⟨w.heap.size + 1, 0, none⟩ (.int .i64 2)).setCell ⟨w.heap.size + 1, 1, none⟩ (.func (.func 100) #[] #[])).setCell ⟨w.heap.size + 1, 2, none⟩ Value.nilFunc).cell? ⟨w.heap.size + 1, 0, none⟩ = some (.int .i64 2) := by rw [blk_cell hb]; rfl
  have m1 : (((w1.setCell ⟨w.heap.size + 1, 0, none⟩ (.int .i64 2)).setCell ⟨w.heap.size + 1, 1, none⟩ (.func (.func 100) #[] #[])).setCell ⟨w.heap.size + 1, 2, none⟩ Value.nilFunc).cell? ⟨w.heap.size + 1, 1, none⟩ = some (.func (.func 100) #[] #[]) := by rw [blk_cell hb]; rfl
  have m2 : (((w1.setCell ⟨w.heap.size + 1, 0, none⟩ (.int .i64 2)).setCell ⟨w.heap.size + 1, 1, none⟩ (.func (.func 100) #[] #[])).setCell ⟨w.heap.size + 1, 2, none⟩ Value.nilFunc).cell? ⟨w.heap.size + 1, 2, none⟩ = some Value.nilFunc := by rw [blk_cell hb]; rfl
  refine bodyPost_ret (v := .tuple #[.agg #[.int .i64 2, .func (.func 100) #[] #[], Value.nilFunc], .bool true]) (by simp [results, Tryz.results69, go_sem, m0, m1, m2]) rfl ?_
  exact ⟨rfl, rule_gb (w0 := w) (gb_trans HG.out HG1.out (.inl rfl)) (Nat.le_succ _) (.func (.func 100) #[] #[])⟩
end Go.Proofs.YtnilcnobngcbgaaGreat
