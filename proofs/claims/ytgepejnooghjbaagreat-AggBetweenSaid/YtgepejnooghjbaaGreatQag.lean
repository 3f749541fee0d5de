/-
  Facts out of contracts.
-/
import Derived.Test.YtgepejnooghjbaaGreatQaf
import Derived.Laws.EntriesVeiled
import Derived.Shelf.Abstract
import Derived.Deep.WholeRow
import Derived.Test.YtgepejnooghjbaaGreatQab
import Derived.Test.YtgepejnooghjbaaGreatQac

namespace Go.Proofs.YtgepejnooghjbaaGreat
open Go.RowKit
attribute [local go_sem ↓] Go.wp_at_zero Go.wp_at_succ

set_option maxHeartbeats 1000000 in
theorem both_any (t : Int) (w : World) : Calls Tryz.prog 149 #[.int .i64 t] w fun e w' => e = .returned (.agg #[.int .i64 t, .int .i64 t]) ∧ w.grownBy w' none := by
  go_enter Tryz.func149, Tryz.ntmps149
  go_wp2_with fail
  refine bodyPost_ret (v := .agg #[.int .i64 t, .int .i64 t]) (by simp [results, Tryz.results149, go_sem]) rfl ⟨rfl, ?_⟩
  exact gb_alloc (gb_refl w none) _
/-- What a function of two ints gives. -/
def NumR (r : Option Int) (w2 : World) (e : Ending) (w' : World) : Prop := w2.grownBy w' none ∧ match r with
  | some n => e = .returned (.tuple #[.int .i64 n, .bool true])
  | none => e = .returned (.tuple #[.int .i64 0, .bool false])
theorem pair_eq (w : World) : (Op.equalIn 10000 103 (.agg #[.int .i64 2, .int .i64 2]) (.agg #[.int .i64 2, .int .i64 2])).run Tryz.prog w = .ok true w := by kernel_rfl
theorem pair_42 (w : World) : (Op.equalIn 10000 103 (.agg #[.int .i64 2, .int .i64 2]) (.agg #[.int .i64 4, .int .i64 2])).run Tryz.prog w = .ok false w := by kernel_rfl
theorem pair_24 (w : World) : (Op.equalIn 10000 103 (.agg #[.int .i64 2, .int .i64 2]) (.agg #[.int .i64 2, .int .i64 4])).run Tryz.prog w = .ok false w := by kernel_rfl
/-- A rule of ints: of the type 2, by the function v. -/
def RuleE (v : Value) (e : Ending) : Prop := e = .returned (.tuple #[.agg #[.int .i64 2, v, Value.nilFunc], .bool true])
/-- Three cells of a rule in a block of one's own. -/
theorem rule_put {w : World} {g : Nat} {c0 c1 c2 : Value} (h : w.heap[g]? = some (.cells #[c0, c1, c2] 99 (0, 0))) (v : Value) :
    (((w.setCell ⟨g, 0, none⟩ (.int .i64 2)).setCell ⟨g, 1, none⟩ v).setCell ⟨g, 2, none⟩ Value.nilFunc).heap[g]? = some (.cells #[.int .i64 2, v, Value.nilFunc] 99 (0, 0)) := by
  rw [blk_set (blk_set (blk_set h 0 _) 1 _) 2 _]
  rfl
theorem rule_gb {w0 w : World} {g : Nat} (h : w0.grownBy w none) (hg : w0.heap.size ≤ g) (v : Value) : w0.grownBy (((w.setCell ⟨g, 0, none⟩ (.int .i64 2)).setCell ⟨g, 1, none⟩ v).setCell ⟨g, 2, none⟩ Value.nilFunc) none :=
  gb_setCell (gb_setCell (gb_setCell h (.inr hg) _) (.inr hg) _) (.inr hg) _
theorem rule_other {w : World} {g b o : Nat} (v : Value) (hne : b ≠ g) : (((w.setCell ⟨g, 0, none⟩ (.int .i64 2)).setCell ⟨g, 1, none⟩ v).setCell ⟨g, 2, none⟩ Value.nilFunc).cell? ⟨b, o, none⟩ = w.cell? ⟨b, o, none⟩ := by
  have k : ∀ (w : World) (i : Nat) (u : Value), (w.setCell ⟨g, i, none⟩ u).heap[b]? = w.heap[b]? := fun w i u => Below.heap_setCell w ⟨g, i, none⟩ u b (fun e => hne e)
  exact World.cell?_of_block (a := ⟨b, o, none⟩) (by rw [k, k, k])
/-- What stands at the beginning of these functions: the pair and the result, in boxes. -/
structure PairB (w wa : World) : Prop where
  p : wa.heap[w.heap.size]? = some (.cells #[.int .i64 2, .int .i64 2] 103 (0, 0))
  r : wa.heap[w.heap.size + 1]? = some (.cells #[.int .i64 0, Value.nilFunc, Value.nilFunc] 99 (0, 0))
  g : w.grownBy wa none
  s : wa.heap.size = w.heap.size + 2
theorem PairB.mk_ (w : World) : PairB w ((w.alloc (.cells #[.int .i64 2, .int .i64 2] 103)).alloc (.cells #[.int .i64 0, Value.nilFunc, Value.nilFunc] 99)) :=
  ⟨((gb_alloc (gb_refl (w.alloc (.cells #[.int .i64 2, .int .i64 2] 103)) none) _).block _ (by simp) (by simp)).trans (heap_alloc_new w _), by have := heap_alloc_new (w.alloc (.cells #[.int .i64 2, .int .i64 2] 103)) (.cells #[.int .i64 0, Value.nilFunc, Value.nilFunc] 99); rwa [World.size_alloc] at this, gb_alloc (gb_alloc (gb_refl w none) _) _, by simp⟩

/-- The sum, where it is a number. -/
def sumF (a b : Int) : Option Int := if -9223372036854775807 ≤ a + b ∧ a + b ≤ 9223372036854775807 then some (a + b) else none
set_option maxHeartbeats 2000000 in
set_option maxRecDepth 100000 in
theorem sum_any (a b : Int) (ha : Num64 a) (hb : Num64 b) (w : World) : Calls Tryz.prog 146 #[.int .i64 a, .int .i64 b] w (NumR (sumF a b) w) := by
  by_cases hs : -9223372036854775807 ≤ a + b ∧ a + b ≤ 9223372036854775807
  · refine (sum_ok a b hs w).mono fun e w' h => ⟨h.2 ▸ gb_refl w none, ?_⟩
    unfold sumF
    rw [if_pos hs]
    exact h.1
  · have HN := hide (show sumF a b = none by unfold sumF; rw [if_neg hs])
    have ha1 := ha.1
    have ha2 := ha.2
    have hb1 := hb.1
    have hb2 := hb.2
    by_cases hu : IntKind.i64.wrap (a + b) = -9223372036854775808
    · have q1 := hu
      clear hs ha hb ha1 ha2 hb1 hb2 hu
      go_enter Tryz.func146, Tryz.ntmps146
      go_wp2_with fail
      exact bodyPost_ret (v := .tuple #[.int .i64 0, .bool false]) (by simp [results, Tryz.results146, go_sem]) rfl ⟨gb_refl w none, by rw [HN.out]⟩
    · obtain ⟨m, hme⟩ : ∃ m, m = IntKind.i64.wrap (a + b) := ⟨_, rfl⟩
      have q1 : IntKind.i64.wrap (a + b) = m := hme.symm
      rw [IntKind.wrap_i64] at hme hu
      have e0 : (m == -9223372036854775808) = false := int_beq_f (by omega)
      by_cases hb0 : 0 < b
      · have d1 : decide (a < m) = false := decide_eq_false (by omega)
        have d2 : decide (0 < b) = true := decide_eq_true hb0
        clear hs ha hb ha1 ha2 hb1 hb2 hu hme hb0
        go_enter Tryz.func146, Tryz.ntmps146
        go_wp2_with fail
        exact bodyPost_ret (v := .tuple #[.int .i64 0, .bool false]) (by simp [results, Tryz.results146, go_sem]) rfl ⟨gb_refl w none, by rw [HN.out]⟩
      · have d1 : decide (a < m) = true := decide_eq_true (by omega)
        have d2 : decide (0 < b) = false := decide_eq_false hb0
        clear hs ha hb ha1 ha2 hb1 hb2 hu hme hb0
        go_enter Tryz.func146, Tryz.ntmps146
        go_wp2_with fail
        exact bodyPost_ret (v := .tuple #[.int .i64 0, .bool false]) (by simp [results, Tryz.results146, go_sem]) rfl ⟨gb_refl w none, by rw [HN.out]⟩
end Go.Proofs.YtgepejnooghjbaaGreat

namespace Go.Proofs.YtgepejnooghjbaaGreat
open Go.RowKit
attribute [local go_sem ↓] Go.wp_at_zero Go.wp_at_succ

/-- An int of the program, null among them. -/
def I64 (n : Int) : Prop := -9223372036854775808 ≤ n ∧ n ≤ 9223372036854775807
theorem I64.num {n : Int} (h : I64 n) (h0 : n ≠ -9223372036854775808) : Num64 n := ⟨by have := h.1; omega, h.2⟩
/-- What Add, Div and Mod make of two ints. -/
def strictF (f : Int → Int → Option Int) (a b : Int) : Option Int := if a = -9223372036854775808 ∨ b = -9223372036854775808 then some (-9223372036854775808) else f a b
/-- A box for a rule, whose type is not that of bools. -/
def ZR (o : Obj) : Prop := ∃ n a b, o = .cells #[.int .i64 n, a, b] 99 (0, 0) ∧ n ≠ 1
/-- A strict function of ints, whose inner one lies at g. -/
def StrF (n : Nat) (w : World) (g : Nat) (f : Int → Int → Option Int) : Prop := ∀ w2, (∀ i, n ≤ i → i < w.heap.size → (∃ o, w.heap[i]? = some o ∧ ZR o) ∨ w2.heap[i]? = w.heap[i]?) → ∀ a b, I64 a → I64 b → Calls Tryz.prog 145 #[.int .i64 a, .int .i64 b, .pointer (some ⟨g, 0, none⟩)] w2 (NumR (f a b) w2)
theorem cell_own {w w2 : World} {n g : Nat} {u : Value} (h : w.cell? ⟨g, 0, none⟩ = some u) (hu : ∀ n, n ≠ 1 → u ≠ .int .i64 n) (hn : n ≤ g) (hk : ∀ i, n ≤ i → i < w.heap.size → (∃ o, w.heap[i]? = some o ∧ ZR o) ∨ w2.heap[i]? = w.heap[i]?) : w2.cell? ⟨g, 0, none⟩ = some u := by
  rcases hk g hn (World.block_lt_of_cell? w _ h) with ⟨o, ho, n, a, b, rfl, hz⟩ | e
  · rw [blk_cell ho] at h
    exact absurd (by injection h with h; exact h.symm) (hu n hz)
  · exact (World.cell?_of_block e).trans h
/-- What a strict rule's making gives. -/
def StrR (f : Int → Int → Option Int) (w : World) (e : Ending) (w' : World) : Prop := ∃ g, RuleE (.func (.func 145) #[] #[.pointer (some ⟨g, 0, none⟩)]) e ∧ StrF w.heap.size w' g f ∧ w.grownBy w' none
theorem strict_null (f : Int → Int → Option Int) (a b : Int) (g : Nat) (h : a = -9223372036854775808 ∨ b = -9223372036854775808) (w : World) :
    Calls Tryz.prog 145 #[.int .i64 a, .int .i64 b, .pointer (some ⟨g, 0, none⟩)] w (NumR (strictF f a b) w) := by
  have HN := hide (show strictF f a b = some (-9223372036854775808) by unfold strictF; rw [if_pos h])
  by_cases h0 : a = -9223372036854775808
  · have e1 : (a == -9223372036854775808) = true := by simp [h0]
    clear h h0
    go_enter Tryz.func145, Tryz.ntmps145
    go_wp2_with fail
    exact bodyPost_ret (v := .tuple #[.int .i64 (-9223372036854775808), .bool true]) (by simp [results, Tryz.results145, go_sem]) rfl ⟨gb_refl w none, by rw [HN.out]⟩
  · have h1 : b = -9223372036854775808 := h.resolve_left h0
    have e1 : (a == -9223372036854775808) = false := int_beq_f h0
    have e2 : (b == -9223372036854775808) = true := by simp [h1]
    clear h h0 h1
    go_enter Tryz.func145, Tryz.ntmps145
    go_wp2_with fail
    exact bodyPost_ret (v := .tuple #[.int .i64 (-9223372036854775808), .bool true]) (by simp [results, Tryz.results145, go_sem]) rfl ⟨gb_refl w none, by rw [HN.out]⟩
end Go.Proofs.YtgepejnooghjbaaGreat

namespace Go.Proofs.YtgepejnooghjbaaGreat
open Go.RowKit
attribute [local go_sem ↓] Go.wp_at_zero Go.wp_at_succ

theorem storeCells_row {P : Program} {w : World} {g : Nat} {t : TypeId} {c c' : Array Value} (hb : w.heap[g]? = some (.cells c t (0, 0))) (hi : (P.info? t).map (·.size) = some c'.size) (ho : c.size = c'.size) (h1 : c'.all (·.oneCell') = true) :
    (storeCells ⟨g, 0, none⟩ c'.toList 0).run P w = .ok () (w.setRow g c') := by
  have := run_storeVar_row (P := P) w g t t c c' hb hi ho h1
  cases hq : P.info? t with
  | none => simp [hq] at hi
  | some i =>
    have hs : c'.size = i.size := by simp [hq] at hi; omega
    simpa [storeVar, sizeOf, typeInfo, hq, Value.cells, hs] using this
theorem heap_setRow (w : World) (g : Nat) (c : Array Value) (i : Nat) (h : i ≠ g) : (w.setRow g c).heap[i]? = w.heap[i]? := by
  simp only [World.setRow]
  rw [Array.getElem?_modify]
  have h' : ¬ g = i := fun e => h e.symm
  simp [h']
theorem gb_setRow {a w : World} (h : a.grownBy w none) (g : Nat) (c : Array Value) (hg : a.heap.size ≤ g) : a.grownBy (w.setRow g c) none :=
  ⟨h.os, h.tape, h.output, by simpa [World.setRow] using h.size, fun i hi hne => (heap_setRow w g c i (by omega)).trans (h.block i hi hne)⟩
set_option maxHeartbeats 1000000 in
theorem strict_mk (fn : Fn) (w : World) : Calls Tryz.prog 102 #[.func fn #[] #[]] w fun e w' => ∃ p, e = .returned (.func (.func 144) #[] #[.pointer (some ⟨p, 0, none⟩)]) ∧ w'.cell? ⟨p, 0, none⟩ = some (.func fn #[] #[]) ∧ w.heap.size ≤ p ∧ w.grownBy w' none := by
  have hb : (w.alloc (.cells #[.func fn #[] #[]] 92)).cell? ⟨w.heap.size, 0, none⟩ = some (.func fn #[] #[]) := by rw [blk_cell (heap_alloc_new w _)]; rfl
  have HB := hide hb
  clear hb
  go_enter Tryz.func102, Tryz.ntmps102
  go_wp2_with fail
  go_ret
  exact ⟨w.heap.size, rfl, HB.out, Nat.le_refl _, gb_alloc (gb_refl w none) _⟩
set_option maxHeartbeats 1000000 in
theorem choose_mk (fn : Fn) (w : World) : Calls Tryz.prog 108 #[.func fn #[] #[]] w fun e w' => ∃ p, e = .returned (.func (.func 153) #[] #[.pointer (some ⟨p, 0, none⟩)]) ∧ w'.cell? ⟨p, 0, none⟩ = some (.func fn #[] #[]) ∧ w.heap.size ≤ p ∧ w.grownBy w' none := by
  have hb : (w.alloc (.cells #[.func fn #[] #[]] 96)).cell? ⟨w.heap.size, 0, none⟩ = some (.func fn #[] #[]) := by rw [blk_cell (heap_alloc_new w _)]; rfl
  have HB := hide hb
  clear hb
  go_enter Tryz.func108, Tryz.ntmps108
  go_wp2_with fail
  go_ret
  exact ⟨w.heap.size, rfl, HB.out, Nat.le_refl _, gb_alloc (gb_refl w none) _⟩
set_option maxHeartbeats 1000000 in
theorem compare_mk (fn : Fn) (w : World) : Calls Tryz.prog 111 #[.func fn #[] #[]] w fun e w' => ∃ p, e = .returned (.func (.func 154) #[] #[.pointer (some ⟨p, 0, none⟩)]) ∧ w'.cell? ⟨p, 0, none⟩ = some (.func fn #[] #[]) ∧ w.heap.size ≤ p ∧ w.grownBy w' none := by
  have hb : (w.alloc (.cells #[.func fn #[] #[]] 112)).cell? ⟨w.heap.size, 0, none⟩ = some (.func fn #[] #[]) := by rw [blk_cell (heap_alloc_new w _)]; rfl
  have HB := hide hb
  clear hb
  go_enter Tryz.func111, Tryz.ntmps111
  go_wp2_with fail
  go_ret
  exact ⟨w.heap.size, rfl, HB.out, Nat.le_refl _, gb_alloc (gb_refl w none) _⟩
theorem ops_store {w : World} {g : Nat} (h : w.heap[g]? = some (.cells #[Value.nilFunc, Value.nilFunc, Value.nilFunc, Value.nilFunc, Value.nilFunc, Value.nilFunc, Value.nilFunc, Value.nilFunc, Value.nilFunc, Value.nilFunc] 93 (0, 0))) (p0 p1 p2 p3 p4 p5 p6 p7 p8 p9 : Nat) :
    (storeCells ⟨g, 0, none⟩ [.func (.func 144) #[] #[.pointer (some ⟨p0, 0, none⟩)], .func (.func 144) #[] #[.pointer (some ⟨p1, 0, none⟩)], .func (.func 144) #[] #[.pointer (some ⟨p2, 0, none⟩)], .func (.func 144) #[] #[.pointer (some ⟨p3, 0, none⟩)], .func (.func 144) #[] #[.pointer (some ⟨p4, 0, none⟩)], .func (.func 153) #[] #[.pointer (some ⟨p5, 0, none⟩)], .func (.func 153) #[] #[.pointer (some ⟨p6, 0, none⟩)], .func (.func 154) #[] #[.pointer (some ⟨p7, 0, none⟩)], .func (.func 154) #[] #[.pointer (some ⟨p8, 0, none⟩)], .func (.func 154) #[] #[.pointer (some ⟨p9, 0, none⟩)]] 0).run Tryz.prog w = .ok () (w.setRow g #[.func (.func 144) #[] #[.pointer (some ⟨p0, 0, none⟩)], .func (.func 144) #[] #[.pointer (some ⟨p1, 0, none⟩)], .func (.func 144) #[] #[.pointer (some ⟨p2, 0, none⟩)], .func (.func 144) #[] #[.pointer (some ⟨p3, 0, none⟩)], .func (.func 144) #[] #[.pointer (some ⟨p4, 0, none⟩)], .func (.func 153) #[] #[.pointer (some ⟨p5, 0, none⟩)], .func (.func 153) #[] #[.pointer (some ⟨p6, 0, none⟩)], .func (.func 154) #[] #[.pointer (some ⟨p7, 0, none⟩)], .func (.func 154) #[] #[.pointer (some ⟨p8, 0, none⟩)], .func (.func 154) #[] #[.pointer (some ⟨p9, 0, none⟩)]]) := by
  have hi : (Tryz.prog.info? 93).map (·.size) = some 10 := by kernel_rfl
  exact storeCells_row (P := Tryz.prog) (c' := #[.func (.func 144) #[] #[.pointer (some ⟨p0, 0, none⟩)], .func (.func 144) #[] #[.pointer (some ⟨p1, 0, none⟩)], .func (.func 144) #[] #[.pointer (some ⟨p2, 0, none⟩)], .func (.func 144) #[] #[.pointer (some ⟨p3, 0, none⟩)], .func (.func 144) #[] #[.pointer (some ⟨p4, 0, none⟩)], .func (.func 153) #[] #[.pointer (some ⟨p5, 0, none⟩)], .func (.func 153) #[] #[.pointer (some ⟨p6, 0, none⟩)], .func (.func 154) #[] #[.pointer (some ⟨p7, 0, none⟩)], .func (.func 154) #[] #[.pointer (some ⟨p8, 0, none⟩)], .func (.func 154) #[] #[.pointer (some ⟨p9, 0, none⟩)]]) h hi rfl (by simp [Value.oneCell'])
section
attribute [-go_sem] Go.storeCells
end
end Go.Proofs.YtgepejnooghjbaaGreat

namespace Go.Proofs.YtgepejnooghjbaaGreat
open Go.RowKit
attribute [local go_sem ↓] Go.wp_at_zero Go.wp_at_succ

/-- A strict operation of ints, ready to be asked. -/
def OpC (w : World) (p : Nat) (f : Int → Int → Option Int) : Prop := ∀ w2, w.grownBy w2 none → Calls Tryz.prog 144 #[.agg #[.int .i64 2, .int .i64 2], .pointer (some ⟨p, 0, none⟩)] w2 (StrR f w2)
theorem OpC.gb {w w' : World} {p : Nat} {f : Int → Int → Option Int} (h : OpC w p f) (hg : w.grownBy w' none) : OpC w' p f := fun w2 h2 => h w2 (gb_trans hg h2 (.inl rfl))
theorem StrF.after {n n' : Nat} {w w' : World} {g : Nat} {f : Int → Int → Option Int} (h : StrF n w g f) (hn : n' ≤ n) (hs : w.heap.size ≤ w'.heap.size) (hk : ∀ i, n ≤ i → i < w.heap.size → w'.heap[i]? = w.heap[i]?) : StrF n' w' g f :=
  fun w2 h2 => h w2 fun i hi hlt => by
    have e := hk i hi hlt
    rcases h2 i (Nat.le_trans hn hi) (Nat.lt_of_lt_of_le hlt hs) with ⟨o, ho, hz⟩ | e2
    · exact .inl ⟨o, e ▸ ho, hz⟩
    · exact .inr (e2.trans e)
theorem StrF.gb {n : Nat} {w w' : World} {g : Nat} {f : Int → Int → Option Int} (h : StrF n w g f) (hg : w.grownBy w' none) : StrF n w' g f :=
  h.after (Nat.le_refl _) hg.size fun i _ hlt => hg.block i hlt (by simp)
set_option maxHeartbeats 2000000 in
set_option maxRecDepth 100000 in
theorem ruleOf_ints {f : Int → Int → Option Int} (p : Nat) (w : World) (C : OpC w p f) : Calls Tryz.prog 70 #[.func (.func 144) #[] #[.pointer (some ⟨p, 0, none⟩)], .agg #[.int .i64 2, .int .i64 2]] w (StrR f w) := by
  obtain ⟨wa, hwa⟩ : ∃ wa, wa = (w.alloc (.cells #[.int .i64 2, .int .i64 2] 103)).alloc (.cells #[.int .i64 0, Value.nilFunc, Value.nilFunc] 99) := ⟨_, rfl⟩
  obtain ⟨hp1, hr, hg, hs⟩ := PairB.mk_ w
  rw [← hwa] at hp1 hr hg hs
  have HR := hide hr
  have HG := hide hg
  have HS := hide hs
  have HWE := hide hwa
  have x0 : wa.cell? ⟨w.heap.size, 0, none⟩ = some (.int .i64 2) := by rw [blk_cell hp1]; rfl
  have x1 : wa.cell? ⟨w.heap.size, 1, none⟩ = some (.int .i64 2) := by rw [blk_cell hp1]; rfl
  have x0a := x0
  have x1a := x1
  rw [hwa] at x0a x1a
  have HC := hide C
  clear hp1 hr hg hwa hs C
  go_enter Tryz.func70, Tryz.ntmps70
  go_wp2_with fail
  rw [← HWE.out]
  go_wp2_with (go_at_call 144; refine (HC.out wa HG.out).mono ?_; rintro e w1 ⟨g, rfl, hS, hg1⟩; have HF := hide hS; have HG1 := hide hg1; have hgW := gb_alloc hg1 (.cells #[.int .i64 2, .func (.func 145) #[] #[.pointer (some ⟨g, 0, none⟩)], Value.nilFunc] 99); have HGW := hide (gb_trans HG.out hgW (.inl rfl)); have hr2 := (hgW.block _ (blk_lt HR.out) (by simp)).trans HR.out; have HR2 := hide hr2; have z0 := blk_frozen hr2 0; have z1 := blk_frozen hr2 1; have z2 := blk_frozen hr2 2; have y0 : (w1.alloc (.cells #[.int .i64 2, .func (.func 145) #[] #[.pointer (some ⟨g, 0, none⟩)], Value.nilFunc] 99)).cell? ⟨w.heap.size + 1, 0, none⟩ = some (.int .i64 0) := (by { rw [blk_cell hr2]; rfl }); have y1 : (w1.alloc (.cells #[.int .i64 2, .func (.func 145) #[] #[.pointer (some ⟨g, 0, none⟩)], Value.nilFunc] 99)).cell? ⟨w.heap.size + 1, 1, none⟩ = some Value.nilFunc := (by { rw [blk_cell hr2]; rfl }); have y2 : (w1.alloc (.cells #[.int .i64 2, .func (.func 145) #[] #[.pointer (some ⟨g, 0, none⟩)], Value.nilFunc] 99)).cell? ⟨w.heap.size + 1, 2, none⟩ = some Value.nilFunc := (by { rw [blk_cell hr2]; rfl }); clear hS hg1 hgW hr2)
  have hb := rule_put HR2.out (.func (.func 145) #[] #[.pointer (some ⟨g, 0, none⟩)])
  have m0 : ((((w1.alloc (.cells #[.int .i64 2, .func (.func 145) #[] #[.pointer (some ⟨g, 0, none⟩)], Value.nilFunc] 99)).setCell ⟨w.heap.size + 1, 0, none⟩ (.int .i64 2)).setCell ⟨w.heap.size + 1, 1, none⟩ (.func (.func 145) #[] #[.pointer (some ⟨g, 0, none⟩)])).setCell ⟨w.heap.size + 1, 2, none⟩ Value.nilFunc).cell? ⟨w.heap.size + 1, 0, none⟩ = some (.int .i64 2) := by rw [blk_cell hb]; rfl
  have m1 : ((((w1.alloc (.cells #[.int .i64 2, .func (.func 145) #[] #[.pointer (some ⟨g, 0, none⟩)], Value.nilFunc] 99)).setCell ⟨w.heap.size + 1, 0, none⟩ (.int .i64 2)).setCell ⟨w.heap.size + 1, 1, none⟩ (.func (.func 145) #[] #[.pointer (some ⟨g, 0, none⟩)])).setCell ⟨w.heap.size + 1, 2, none⟩ Value.nilFunc).cell? ⟨w.heap.size + 1, 1, none⟩ = some (.func (.func 145) #[] #[.pointer (some ⟨g, 0, none⟩)]) := by rw [blk_cell hb]; rfl
  have m2 : ((((w1.alloc (.cells #[.int .i64 2, .func (.func 145) #[] #[.pointer (some ⟨g, 0, none⟩)], Value.nilFunc] 99)).setCell ⟨w.heap.size + 1, 0, none⟩ (.int .i64 2)).setCell ⟨w.heap.size + 1, 1, none⟩ (.func (.func 145) #[] #[.pointer (some ⟨g, 0, none⟩)])).setCell ⟨w.heap.size + 1, 2, none⟩ Value.nilFunc).cell? ⟨w.heap.size + 1, 2, none⟩ = some Value.nilFunc := by rw [blk_cell hb]; rfl
  refine bodyPost_ret (v := .tuple #[.agg #[.int .i64 2, .func (.func 145) #[] #[.pointer (some ⟨g, 0, none⟩)], Value.nilFunc], .bool true]) (by simp [results, Tryz.results70, go_sem, m0, m1, m2]) rfl ?_
  refine ⟨g, rfl, HF.out.after (by have := HS.out; omega) (by simp [World.setCell]) ?_, rule_gb (w0 := w) HGW.out (Nat.le_succ _) (.func (.func 145) #[] #[.pointer (some ⟨g, 0, none⟩)])⟩
  intro i hi hlt
  have hne : i ≠ w.heap.size + 1 := by have := HS.out; omega
  have k : ∀ (w : World) (g j : Nat) (u : Value), i ≠ g → (w.setCell ⟨g, j, none⟩ u).heap[i]? = w.heap[i]? := fun w g j u hne => Below.heap_setCell w ⟨g, j, none⟩ u i (fun e => hne e)
  rw [k _ _ _ _ hne, k _ _ _ _ hne, k _ _ _ _ hne]
  exact Below.heap_alloc w1 _ i hlt
/-- The kind of a value, by its type and how many symbols and numbers it has. -/
def kindO (t : Int) (s n : Nat) : Int := if t = 3 ∨ (t = -3 ∧ s = 1) then 3 else if hasN t = true ∧ (0 < t ∨ n = 1) then max t (-t) else 0
set_option maxHeartbeats 2000000 in
set_option maxRecDepth 100000 in
theorem kind_any (t : Int) (nA : Option Addr) (nl nc : Nat) (sA : Option Addr) (sl sc : Nat) (c3 : Value) (w : World) :
    Calls Tryz.prog 71 #[.agg #[.int .i64 t, .slice nA nl nc, .slice sA sl sc, c3]] w fun e w' => e = .returned (.int .i64 (kindO t sl nl)) ∧ w.grownBy w' none := by
  obtain ⟨wa, hwa⟩ : ∃ wa, wa = w.alloc (.cells #[.int .i64 t, .slice nA nl nc, .slice sA sl sc, c3] 26) := ⟨_, rfl⟩
  have hr : wa.heap[w.heap.size]? = some (.cells #[.int .i64 t, .slice nA nl nc, .slice sA sl sc, c3] 26 (0, 0)) := by rw [hwa]; exact heap_alloc_new w _
  have hg : w.grownBy wa none := by rw [hwa]; exact gb_alloc (gb_refl w none) _
  have b0 : wa.cell? ⟨w.heap.size, 0, none⟩ = some (.int .i64 t) := by rw [blk_cell hr]; rfl
  have b1 : wa.cell? ⟨w.heap.size, 1, none⟩ = some (.slice nA nl nc) := by rw [blk_cell hr]; rfl
  have b2 : wa.cell? ⟨w.heap.size, 2, none⟩ = some (.slice sA sl sc) := by rw [blk_cell hr]; rfl
  have b3 : wa.cell? ⟨w.heap.size, 3, none⟩ = some c3 := by rw [blk_cell hr]; rfl
  have HG := hide hg
  have HW := hide hwa
  clear hr hg hwa
  by_cases h3 : t = 3
  · have HK := hide (show kindO t sl nl = 3 by unfold kindO; rw [if_pos (.inl h3)])
    have e1 : (t == 3) = true := by simp [h3]
    clear h3
    go_enter Tryz.func71, Tryz.ntmps71
    go_wp2_with fail
    rw [← HW.out]
    exact bodyPost_ret (v := .int .i64 (3)) (by simp [results, Tryz.results71, go_sem]) rfl ⟨by rw [HK.out], HG.out⟩
  by_cases h4 : t = -3
  · by_cases hs : (sl : Int) = 1
    · have HK := hide (show kindO t sl nl = 3 by unfold kindO; rw [if_pos (.inr ⟨h4, by omega⟩)])
      have e1 := int_beq_f h3
      have e2 : (t == -3) = true := by simp [h4]
      have e3 : ((sl : Int) == 1) = true := by simp [hs]
      clear h3 h4 hs
      go_enter Tryz.func71, Tryz.ntmps71
      go_wp2_with fail
      rw [← HW.out]
      exact bodyPost_ret (v := .int .i64 (3)) (by simp [results, Tryz.results71, go_sem]) rfl ⟨by rw [HK.out], HG.out⟩
    · have HK := hide (show kindO t sl nl = 0 by unfold kindO; rw [if_neg (by rintro (h | h); exact h3 h; exact hs (by omega)), if_neg (by rw [h4]; simp [hasN])])
      have e1 := int_beq_f h3
      have e2 : (t == -3) = true := by simp [h4]
      have e3 := int_beq_f hs
      have e4 : hasN t = false := by rw [h4]; rfl
      clear h3 h4 hs
      go_enter Tryz.func71, Tryz.ntmps71
      go_wp2_with fail
      rw [← HW.out]
      go_wp2_with (go_at_call 115; refine (vNum_any _ _ _ _ _).mono ?_; rintro e w1 ⟨rfl, hg1⟩; have HG1 := hide hg1; have b0 := cell_gb b0 hg1; have b1 := cell_gb b1 hg1; have b2 := cell_gb b2 hg1; clear hg1)
      exact bodyPost_ret (v := .int .i64 (0)) (by simp [results, Tryz.results71, go_sem]) rfl ⟨by rw [HK.out], (gb_trans HG.out HG1.out (.inl rfl))⟩
  have e1 := int_beq_f h3
  have e2 := int_beq_f h4
  have hk0 : kindO t sl nl = if hasN t = true ∧ (0 < t ∨ nl = 1) then max t (-t) else 0 := by unfold kindO; rw [if_neg (by rintro (h | h); exact h3 h; exact h4 h.1)]
  cases e4 : hasN t
  · have HK := hide (show kindO t sl nl = 0 by rw [hk0, e4]; rfl)
    clear h3 h4 hk0
    go_enter Tryz.func71, Tryz.ntmps71
    go_wp2_with fail
    rw [← HW.out]
    go_wp2_with (go_at_call 115; refine (vNum_any _ _ _ _ _).mono ?_; rintro e w1 ⟨rfl, hg1⟩; have HG1 := hide hg1; have b0 := cell_gb b0 hg1; have b1 := cell_gb b1 hg1; have b2 := cell_gb b2 hg1; clear hg1)
    exact bodyPost_ret (v := .int .i64 (0)) (by simp [results, Tryz.results71, go_sem]) rfl ⟨by rw [HK.out], (gb_trans HG.out HG1.out (.inl rfl))⟩
  have hlim : -5 ≤ t ∧ t ≤ 5 := by
    simp only [hasN, Bool.or_eq_true, beq_iff_eq] at e4
    omega
  have hw : IntKind.i64.wrap (-t) = -t := by rw [IntKind.wrap_i64]; omega
  by_cases h0 : 0 < t
  · have HK := hide (show kindO t sl nl = t by rw [hk0, if_pos ⟨e4, .inl h0⟩]; omega)
    have hm : max t (-t) = t := by omega
    have hm1 : ¬ t < -t := by omega
    have hm2 : -t ≤ t := by omega
    clear h3 h4 hk0 hlim
    go_enter Tryz.func71, Tryz.ntmps71
    go_wp2_with fail
    rw [← HW.out]
    go_wp2_with (go_at_call 115; refine (vNum_any _ _ _ _ _).mono ?_; rintro e w1 ⟨rfl, hg1⟩; have HG1 := hide hg1; have b0 := cell_gb b0 hg1; have b1 := cell_gb b1 hg1; have b2 := cell_gb b2 hg1; clear hg1)
    exact bodyPost_ret (v := .int .i64 (t)) (by simp [results, Tryz.results71, go_sem]) rfl ⟨by rw [HK.out], (gb_trans HG.out HG1.out (.inl rfl))⟩
  by_cases h1 : (nl : Int) = 1
  · have HK := hide (show kindO t sl nl = -t by rw [hk0, if_pos ⟨e4, .inr (by omega)⟩]; omega)
    have hm : max t (-t) = -t := by omega
    have hm1 : t < -t := by simp only [hasN, Bool.or_eq_true, beq_iff_eq] at e4; omega
    have hm2 : ¬ -t ≤ t := by omega
    have e5 : ((nl : Int) == 1) = true := by simp [h1]
    have h0' := decide_eq_false h0
    clear h3 h4 hk0 hlim h1
    go_enter Tryz.func71, Tryz.ntmps71
    go_wp2_with fail
    rw [← HW.out]
    go_wp2_with (go_at_call 115; refine (vNum_any _ _ _ _ _).mono ?_; rintro e w1 ⟨rfl, hg1⟩; have HG1 := hide hg1; have b0 := cell_gb b0 hg1; have b1 := cell_gb b1 hg1; have b2 := cell_gb b2 hg1; clear hg1)
    exact bodyPost_ret (v := .int .i64 (-t)) (by simp [results, Tryz.results71, go_sem]) rfl ⟨by rw [HK.out], (gb_trans HG.out HG1.out (.inl rfl))⟩
  · have HK := hide (show kindO t sl nl = 0 by rw [hk0, if_neg (by rintro ⟨_, h | h⟩; exact h0 h; exact h1 (by omega))])
    have e5 := int_beq_f h1
    have h0' := decide_eq_false h0
    clear h3 h4 hk0 hlim h1
    go_enter Tryz.func71, Tryz.ntmps71
    go_wp2_with fail
    rw [← HW.out]
    go_wp2_with (go_at_call 115; refine (vNum_any _ _ _ _ _).mono ?_; rintro e w1 ⟨rfl, hg1⟩; have HG1 := hide hg1; have b0 := cell_gb b0 hg1; have b1 := cell_gb b1 hg1; have b2 := cell_gb b2 hg1; clear hg1)
    exact bodyPost_ret (v := .int .i64 (0)) (by simp [results, Tryz.results71, go_sem]) rfl ⟨by rw [HK.out], (gb_trans HG.out HG1.out (.inl rfl))⟩
end Go.Proofs.YtgepejnooghjbaaGreat

namespace Go.Proofs.YtgepejnooghjbaaGreat
open Go.RowKit

theorem VAt.vb {w : World} {B : Nat} {v : Vl} {nA : Option Addr} {nc : Nat} {sA : Option Addr} {sc : Nat} {lA : Option Addr} {lc : Nat} (h : VAt w B v [.int .i64 v.t, .slice nA v.n.length nc, .slice sA v.s.length sc, .slice lA v.l.length lc]) : VB w B v nA nc sA sc lA lc := by
  obtain ⟨a, b, c, d, e, f, hc, hv⟩ := h.parts
  simp only [List.cons.injEq, Value.slice.injEq, true_and, and_true] at hc
  obtain ⟨⟨rfl, rfl⟩, ⟨rfl, rfl⟩, ⟨rfl, rfl⟩⟩ := hc
  exact hv
theorem VOw.vb {w : World} {v : Vl} {nA : Option Addr} {nc : Nat} {sA : Option Addr} {sc : Nat} {lA : Option Addr} {lc : Nat} {f : List Nat} (h : VOw w v [.int .i64 v.t, .slice nA v.n.length nc, .slice sA v.s.length sc, .slice lA v.l.length lc] f) : VB w w.heap.size v nA nc sA sc lA lc :=
  (VOw.at_ _ _ _ h fun b hb => VOw.lt _ _ _ h b hb).vb
theorem ValF.of_new {v : Vl} {w w' : World} {e : Ending} (h : NewV v w e w') : ∃ x, e = .returned x ∧ w.grownBy w' none ∧ ValF v x w' := by
  obtain ⟨nA, nc, sA, sc, lA, lc, f, rfl, ho, _, hg⟩ := h
  exact ⟨_, rfl, hg, nA, nc, sA, sc, lA, lc, rfl, ho.vb⟩
/-! ## values with their blocks, and boxes beside them -/
theorem VOw.gb {w w' : World} {v : Vl} {cs : List Value} {f : List Nat} (h : VOw w v cs f) (hg : w.grownBy w' none) : VOw w' v cs f :=
  VOw.keep _ _ _ h fun b hb => hg.block b (VOw.lt _ _ _ h b hb) (by simp)
theorem VOwAll.gb {w w' : World} {l : List Vl} {xs : List (List Value)} {f : List Nat} (h : VOwAll w l xs f) (hg : w.grownBy w' none) : VOwAll w' l xs f :=
  VOwAll.keep _ _ _ h fun b hb => hg.block b (VOwAll.lt _ _ _ h b hb) (by simp)
theorem Own.gb {w w' : World} {f : List Nat} {A : Option Addr} {xs : List Value} (h : Own w f A xs) (hg : w.grownBy w' none) : Own w' f A xs :=
  h.keep fun b hb => hg.block b (h.lt b hb) (by simp)
/-- A value, its blocks known. -/
def ValO (v : Vl) : Fct := fun x w => ∃ nA nc sA sc lA lc f, x = .agg #[.int .i64 v.t, .slice nA v.n.length nc, .slice sA v.s.length sc, .slice lA v.l.length lc] ∧ VOw w v [.int .i64 v.t, .slice nA v.n.length nc, .slice sA v.s.length sc, .slice lA v.l.length lc] f
theorem ValO.up (v : Vl) : (ValO v).Up := by
  rintro x w w' ⟨nA, nc, sA, sc, lA, lc, f, h1, h2⟩ hg
  exact ⟨nA, nc, sA, sc, lA, lc, f, h1, h2.gb hg⟩
theorem ValO.of_new {v : Vl} {w w' : World} {e : Ending} (h : NewV v w e w') : ∃ x, e = .returned x ∧ w.grownBy w' none ∧ ValO v x w' := by
  obtain ⟨nA, nc, sA, sc, lA, lc, f, rfl, ho, _, hg⟩ := h
  exact ⟨_, rfl, hg, nA, nc, sA, sc, lA, lc, f, rfl, ho⟩
theorem ValO.call {w : World} {f : FuncId} {args : Array Value} {v : Vl} (h : Calls Tryz.prog f args w (NewV v w)) : gUpon Tryz.prog w (ValO v) (.ok (.enter f args) w) :=
  ⟨gb_refl w none, h.mono fun _ _ h => ValO.of_new h⟩
/-- A slice of values, their blocks known. -/
def RdVO (l : List Vl) : Fct := fun x w => ∃ A c xs f g, x = .slice A l.length c ∧ l.length ≤ c ∧ Own w f A (List.flatten xs) ∧ VOwAll w l xs g
theorem RdVO.up (l : List Vl) : (RdVO l).Up := by
  rintro x w w' ⟨A, c, xs, f, g, h1, h2, h3, h4⟩ hg
  exact ⟨A, c, xs, f, g, h1, h2, h3.gb hg, h4.gb hg⟩
theorem own_row {w : World} {b : Nat} {cs : Array Value} {ty : TypeId} {xs : List Value} (h : w.heap[b]? = some (.cells cs ty (0, 0))) (hx : cs.toList = xs) (hn : xs ≠ []) : Own w [b] (some ⟨b, 0, none⟩) xs := by
  subst hx
  exact .inr ⟨b, ty, cs, rfl, rfl, h, List.take_of_length_le (by simp), hn⟩
theorem RdVO.two {w : World} {a b : Vl} {x0 x1 x2 x3 y0 y1 y2 y3 : Value} {f1 f2 : List Nat} (h1 : VOw w a [x0, x1, x2, x3] f1) (h2 : VOw w b [y0, y1, y2, y3] f2) :
    gUpon Tryz.prog w (RdVO [a, b]) (.ok (.value (.slice (some ⟨w.heap.size, 0, none⟩) 2 2)) (w.alloc (.cells #[x0, x1, x2, x3, y0, y1, y2, y3] 26))) := by
  have hg := gb_alloc (gb_refl w none) (.cells #[x0, x1, x2, x3, y0, y1, y2, y3] 26)
  exact ⟨hg, _, _, [[x0, x1, x2, x3], [y0, y1, y2, y3]], [w.heap.size], f1 ++ (f2 ++ []), rfl, Nat.le_refl _, own_row (heap_alloc_new w _) rfl (by simp), _, _, _, _, rfl, rfl, h1.gb hg, _, _, _, _, rfl, rfl, h2.gb hg, rfl, rfl⟩
/-- A value whose rows are kept. -/
theorem ValO.mk_ {P : Program} {w : World} {v : Vl} {nA : Option Addr} {nc : Nat} {sA : Option Addr} {sc : Nat} {lA : Option Addr} {lc : Nat} {fn fs fl g : List Nat} {xs : List (List Value)} (h1 : v.n.length ≤ nc ∧ v.s.length ≤ sc ∧ v.l.length ≤ lc)
    (h2 : Own w fn nA (i64s v.n)) (h3 : Own w fs sA (strs v.s)) (h4 : Own w fl lA (List.flatten xs)) (h5 : VOwAll w v.l xs g) :
    gUpon P w (ValO v) (.ok (.value (.agg #[.int .i64 v.t, .slice nA v.n.length nc, .slice sA v.s.length sc, .slice lA v.l.length lc])) w) :=
  ⟨gb_refl w none, nA, nc, sA, sc, lA, lc, _, rfl, VOw.mk_ h1 h2 h3 h4 h5⟩
theorem Own.nil_ {w : World} : Own w [] none [] := .inl ⟨rfl, rfl⟩

mutual
/-- A value none of whose rows looks like an empty box. -/
def clearV : Vl → Bool | .mk _ n _ l => decide (n ≠ [0]) && decide (l.length ≠ 1) && clearL l
def clearL : List Vl → Bool | [] => true | v :: r => clearV v && clearL r
end
/-- An empty box of a value. -/
def zero4 : Array Value := #[.int .i64 0, .slice none 0 0, .slice none 0 0, .slice none 0 0]
theorem Own.not_box {w : World} {f : List Nat} {A : Option Addr} {xs : List Value} {g : Nat} {ty : TypeId} (h : Own w f A xs) (hb : w.heap[g]? = some (.cells zero4 ty (0, 0))) (hx : xs ≠ [] → zero4.toList.take xs.length ≠ xs) : g ∉ f := by
  rcases h with ⟨_, rfl⟩ | ⟨b, t, cur, rfl, rfl, hh, ht, hn⟩
  · simp
  · intro hm
    obtain rfl := List.mem_singleton.1 hm
    rw [hb] at hh
    injection hh with hh
    injection hh with hh
    subst hh
    exact hx hn ht
mutual
theorem box_out {w : World} {g : Nat} {ty : TypeId} (hb : w.heap[g]? = some (.cells zero4 ty (0, 0))) : ∀ (v : Vl) (cs : List Value) (f : List Nat), VOw w v cs f → clearV v = true → g ∉ f
  | .mk t n s l, cs, f, h, hc => by
    obtain ⟨nA, nc, sA, sc, lA, lc, xs, fn, fs, fl, fp, rfl, a, ⟨h2, h3, h4⟩, h5, rfl⟩ := h
    simp only [clearV, Bool.and_eq_true, decide_eq_true_eq] at hc
    have hn : g ∉ fn := h2.not_box hb fun hne he => by
      match n, hne with
      | [x], _ => simp [i64s, zero4] at he; exact hc.1.1 (by rw [he])
      | x :: y :: r, _ => simp [i64s, zero4] at he
    have hs : g ∉ fs := h3.not_box hb fun hne he => by
      match s, hne with
      | x :: r, _ => simp [strs, zero4] at he
    have hl : g ∉ fl := h4.not_box hb fun hne he => by
      have h6 := flat4_length h5.all4
      have h7 := h5.length
      have h8 : (zero4.toList.take (List.flatten xs).length).length = (List.flatten xs).length := by rw [he]
      have h9 : (zero4.toList.take (List.flatten xs).length).length ≤ 4 := by simp [zero4]; omega
      have h0 : (List.flatten xs).length ≠ 0 := fun e => hne (List.eq_nil_of_length_eq_zero e)
      omega
    have hp := boxes_out hb l xs fp h5 hc.2
    simp [hn, hs, hl, hp]
theorem boxes_out {w : World} {g : Nat} {ty : TypeId} (hb : w.heap[g]? = some (.cells zero4 ty (0, 0))) : ∀ (l : List Vl) (xs : List (List Value)) (f : List Nat), VOwAll w l xs f → clearL l = true → g ∉ f
  | [], xs, f, h, _ => by rw [h.2]; simp
  | v :: r, xs, f, h, hc => by
    obtain ⟨c, q, f1, f2, rfl, rfl, h1, h2⟩ := h
    simp only [clearL, Bool.and_eq_true] at hc
    have a := box_out hb v c f1 h1 hc.1
    have b := boxes_out hb r q f2 h2 hc.2
    simp [a, b]
end
/-- Four cells are stored into an empty box: the box has them, a value beside it is kept. -/
theorem C4.put {w : World} {g : Nat} {ty : TypeId} (h : w.heap[g]? = some (.cells zero4 ty (0, 0))) (c0 c1 c2 c3 : Value) : C4 (put4 w g 0 c0 c1 c2 c3) g 0 c0 c1 c2 c3 := by
  have h := put4_blk (i := 0) h c0 c1 c2 c3
  exact ⟨by rw [blk_cell h]; rfl, by rw [blk_cell h]; rfl, by rw [blk_cell h]; rfl, by rw [blk_cell h]; rfl⟩
theorem VOw.put {w : World} {g : Nat} {ty : TypeId} {v : Vl} {cs : List Value} {f : List Nat} (h : VOw w v cs f) (hb : w.heap[g]? = some (.cells zero4 ty (0, 0))) (hc : clearV v = true) (c0 c1 c2 c3 : Value) : VOw (put4 w g 0 c0 c1 c2 c3) v cs f :=
  VOw.keep _ _ _ h fun b hm => (put4_gb w g 0 c0 c1 c2 c3).block b (VOw.lt _ _ _ h b hm) (fun e => by
    injection e with e
    subst e
    exact box_out hb _ _ _ h hc hm)
end Go.Proofs.YtgepejnooghjbaaGreat
