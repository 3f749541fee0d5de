/-
  vec's strict rules of two ints: the function that a null makes null, and the rule that holds it.
-/
import Derived.Test.YtnilcnobngcbgaaGreatDc
namespace Go.Proofs.YtnilcnobngcbgaaGreat
open Go.RowKit
attribute [local go_sem ↓] Go.wp_at_zero Go.wp_at_succ

/-- An int of the program, null among them. -/
def I64 (n : Int) : Prop := -9223372036854775808 ≤ n ∧ n ≤ 9223372036854775807
theorem I64.num {n : Int} (h : I64 n) (h0 : n ≠ -9223372036854775808) : Num64 n := ⟨by have := h.1; omega, h.2⟩
/-- What Add, Div and Mod make of two ints. -/
def strictF (f : Int → Int → Option Int) (a b : Int) : Option Int := if a = -9223372036854775808 ∨ b = -9223372036854775808 then some (-9223372036854775808) else f a b
def quoF (a b : Int) : Option Int := some (quoI a b)
def remF (a b : Int) : Option Int := some (remI a b)
/-- A box for a rule, whose type is not that of bools. -/
def ZR (o : Obj) : Prop := ∃ n a b, o = .cells #[.int .i64 n, a, b] 68 (0, 0) ∧ n ≠ 1
/-- A strict function of ints, whose inner one lies at g. -/
def StrF (n : Nat) (w : World) (g : Nat) (f : Int → Int → Option Int) : Prop := ∀ w2, (∀ i, n ≤ i → i < w.heap.size → (∃ o, w.heap[i]? = some o ∧ ZR o) ∨ w2.heap[i]? = w.heap[i]?) → ∀ a b, I64 a → I64 b → Calls Tryz.prog 99 #[.int .i64 a, .int .i64 b, .pointer (some ⟨g, 0, none⟩)] w2 (NumR (f a b) w2)
theorem cell_own {w w2 : World} {n g : Nat} {u : Value} (h : w.cell? ⟨g, 0, none⟩ = some u) (hu : ∀ n, n ≠ 1 → u ≠ .int .i64 n) (hn : n ≤ g) (hk : ∀ i, n ≤ i → i < w.heap.size → (∃ o, w.heap[i]? = some o ∧ ZR o) ∨ w2.heap[i]? = w.heap[i]?) : w2.cell? ⟨g, 0, none⟩ = some u := by
  rcases hk g hn (World.block_lt_of_cell? w _ h) with ⟨o, ho, n, a, b, rfl, hz⟩ | e
  · rw [blk_cell ho] at h
    exact absurd (by injection h with h; exact h.symm) (hu n hz)
  · exact (World.cell?_of_block e).trans h
/-- What a strict rule's making gives. -/
def StrR (f : Int → Int → Option Int) (w : World) (e : Ending) (w' : World) : Prop := ∃ g, RuleE (.func (.func 99) #[] #[.pointer (some ⟨g, 0, none⟩)]) e ∧ StrF w.heap.size w' g f ∧ w.grownBy w' none
theorem strict_null (f : Int → Int → Option Int) (a b : Int) (g : Nat) (h : a = -9223372036854775808 ∨ b = -9223372036854775808) (w : World) :
    Calls Tryz.prog 99 #[.int .i64 a, .int .i64 b, .pointer (some ⟨g, 0, none⟩)] w (NumR (strictF f a b) w) := by
  have HN := hide (show strictF f a b = some (-9223372036854775808) by unfold strictF; rw [if_pos h])
  by_cases h0 : a = -9223372036854775808
  · have e1 : (a == -9223372036854775808) = true := by simp [h0]
    clear h h0
    go_enter Tryz.func99, Tryz.ntmps99
    go_wp2_with fail
    exact bodyPost_ret (v := .tuple #[.int .i64 (-9223372036854775808), .bool true]) (by simp [results, Tryz.results99, go_sem]) rfl ⟨gb_refl w none, by rw [HN.out]⟩
  · have h1 : b = -9223372036854775808 := h.resolve_left h0
    have e1 : (a == -9223372036854775808) = false := int_beq_f h0
    have e2 : (b == -9223372036854775808) = true := by simp [h1]
    clear h h0 h1
    go_enter Tryz.func99, Tryz.ntmps99
    go_wp2_with fail
    exact bodyPost_ret (v := .tuple #[.int .i64 (-9223372036854775808), .bool true]) (by simp [results, Tryz.results99, go_sem]) rfl ⟨gb_refl w none, by rw [HN.out]⟩
set_option maxHeartbeats 2000000 in
set_option maxRecDepth 100000 in
theorem strict_sum (a b : Int) (ha : I64 a) (hb : I64 b) (g : Nat) (w : World) (hc : w.cell? ⟨g, 0, none⟩ = some (.func (.func 100) #[] #[])) :
    Calls Tryz.prog 99 #[.int .i64 a, .int .i64 b, .pointer (some ⟨g, 0, none⟩)] w (NumR (strictF sumF a b) w) := by
  by_cases h : a = -9223372036854775808 ∨ b = -9223372036854775808
  · exact strict_null sumF a b g h w
  have h0 : a ≠ -9223372036854775808 := fun e => h (.inl e)
  have h1 : b ≠ -9223372036854775808 := fun e => h (.inr e)
  have e1 := int_beq_f h0
  have e2 := int_beq_f h1
  have HN := hide (show strictF sumF a b = sumF a b by unfold strictF; rw [if_neg h])
  rcases hsum : sumF a b with _ | n
  · rw [hsum] at HN
    have C := hide (fun w2 => (hsum ▸ sum_any a b (ha.num h0) (hb.num h1) w2 : Calls Tryz.prog 100 #[.int .i64 a, .int .i64 b] w2 (NumR none w2)))
    clear h h0 h1 ha hb hsum
    go_enter Tryz.func99, Tryz.ntmps99
    go_wp2_with (go_at_call 100; refine (C.out _).mono ?_; rintro e w1 ⟨hg1, rfl⟩; have HG := hide hg1; clear hg1)
    exact bodyPost_ret (v := .tuple #[.int .i64 0, .bool false]) (by simp [results, Tryz.results99, go_sem]) rfl ⟨HG.out, by rw [HN.out]⟩
  · rw [hsum] at HN
    have C := hide (fun w2 => (hsum ▸ sum_any a b (ha.num h0) (hb.num h1) w2 : Calls Tryz.prog 100 #[.int .i64 a, .int .i64 b] w2 (NumR (some n) w2)))
    clear h h0 h1 ha hb hsum
    go_enter Tryz.func99, Tryz.ntmps99
    go_wp2_with (go_at_call 100; refine (C.out _).mono ?_; rintro e w1 ⟨hg1, rfl⟩; have HG := hide hg1; clear hg1)
    exact bodyPost_ret (v := .tuple #[.int .i64 n, .bool true]) (by simp [results, Tryz.results99, go_sem]) rfl ⟨HG.out, by rw [HN.out]⟩
set_option maxHeartbeats 2000000 in
set_option maxRecDepth 100000 in
theorem strict_quo (a b : Int) (ha : I64 a) (hb : I64 b) (g : Nat) (q : Nat) (w : World) (hc : w.cell? ⟨g, 0, none⟩ = some (.func (.func 127) #[] #[.pointer (some ⟨q, 0, none⟩)])) (hq : w.cell? ⟨q, 0, none⟩ = some (.int .i64 1)) :
    Calls Tryz.prog 99 #[.int .i64 a, .int .i64 b, .pointer (some ⟨g, 0, none⟩)] w (NumR (strictF quoF a b) w) := by
  by_cases h : a = -9223372036854775808 ∨ b = -9223372036854775808
  · exact strict_null quoF a b g h w
  have h0 : a ≠ -9223372036854775808 := fun e => h (.inl e)
  have h1 : b ≠ -9223372036854775808 := fun e => h (.inr e)
  have e1 := int_beq_f h0
  have e2 := int_beq_f h1
  have HN := hide (show strictF quoF a b = some (quoI a b) by unfold strictF; rw [if_neg h]; rfl)
  have C := hide (quo_any a b (ha.num h0) (hb.num h1) q w hq)
  clear h h0 h1 ha hb hq
  generalize quoI a b = n at *
  go_enter Tryz.func99, Tryz.ntmps99
  go_wp2_with (go_at_call 127; refine (C.out).mono ?_; rintro e w1 ⟨rfl, hg1⟩; have HG := hide (hg1); clear hg1)
  exact bodyPost_ret (v := .tuple #[.int .i64 n, .bool true]) (by simp [results, Tryz.results99, go_sem]) rfl ⟨HG.out, by rw [HN.out]⟩
set_option maxHeartbeats 2000000 in
set_option maxRecDepth 100000 in
theorem strict_rem (a b : Int) (_ : I64 a) (hb : I64 b) (g : Nat) (w : World) (hc : w.cell? ⟨g, 0, none⟩ = some (.func (.func 35) #[] #[])) :
    Calls Tryz.prog 99 #[.int .i64 a, .int .i64 b, .pointer (some ⟨g, 0, none⟩)] w (NumR (strictF remF a b) w) := by
  by_cases h : a = -9223372036854775808 ∨ b = -9223372036854775808
  · exact strict_null remF a b g h w
  have h0 : a ≠ -9223372036854775808 := fun e => h (.inl e)
  have h1 : b ≠ -9223372036854775808 := fun e => h (.inr e)
  have e1 := int_beq_f h0
  have e2 := int_beq_f h1
  have HN := hide (show strictF remF a b = some (remI a b) by unfold strictF; rw [if_neg h]; rfl)
  have C := hide (fun w2 => rem_any a b (hb.num h1) w2)
  clear h h0 h1 hb
  generalize remI a b = n at *
  go_enter Tryz.func99, Tryz.ntmps99
  go_wp2_with (go_at_call 35; refine (C.out _).mono ?_; rintro e w1 ⟨rfl, hg1⟩; have HG := hide (show w.grownBy w1 none by rw [← hg1]; exact gb_refl w none); clear hg1)
  exact bodyPost_ret (v := .tuple #[.int .i64 n, .bool true]) (by simp [results, Tryz.results99, go_sem]) rfl ⟨HG.out, by rw [HN.out]⟩
set_option maxHeartbeats 2000000 in
set_option maxRecDepth 100000 in
theorem strict_add (p : Nat) (w : World) (hp : w.cell? ⟨p, 0, none⟩ = some (.func (.func 69) #[] #[])) :
    Calls Tryz.prog 98 #[.agg #[.int .i64 2, .int .i64 2], .pointer (some ⟨p, 0, none⟩)] w (StrR (strictF sumF) w) := by
  obtain ⟨wa, hwa⟩ : ∃ wa, wa = (w.alloc (.cells #[.int .i64 2, .int .i64 2] 72)).alloc (.cells #[.int .i64 0, Value.nilFunc, Value.nilFunc] 68) := ⟨_, rfl⟩
  obtain ⟨hp1, hr, hg, hs⟩ := PairB.mk_ w
  rw [← hwa] at hp1 hr hg hs
  have HR := hide hr
  have HG := hide hg
  have HS := hide hs
  have HWE := hide hwa
  have x0 : wa.cell? ⟨w.heap.size, 0, none⟩ = some (.int .i64 2) := by rw [blk_cell hp1]; rfl
  have x1 : wa.cell? ⟨w.heap.size, 1, none⟩ = some (.int .i64 2) := by rw [blk_cell hp1]; rfl
  have hp := cell_gb hp hg
  have x0a := x0
  have x1a := x1
  have hpa := hp
  rw [hwa] at x0a x1a hpa
  clear hp1 hr hg hwa hs
  go_enter Tryz.func98, Tryz.ntmps98
  go_wp2_with fail
  rw [← HWE.out]
  go_wp2_with (go_at_call 69; refine (add_ints _).mono ?_; rintro e w1 ⟨rfl, hg1⟩; have HG1 := hide hg1; have hgW := gb_alloc (gb_alloc hg1 (.cells #[.int .i64 2, .func (.func 99) #[] #[.pointer (some ⟨w1.heap.size + 1, 0, none⟩)], Value.nilFunc] 68)) (.cells #[.func (.func 100) #[] #[]] 65); have HGW := hide (gb_trans HG.out hgW (.inl rfl)); have hr2 := (hgW.block _ (blk_lt HR.out) (by simp)).trans HR.out; have HR2 := hide hr2; have z0 := blk_frozen hr2 0; have z1 := blk_frozen hr2 1; have z2 := blk_frozen hr2 2; have y0 : ((w1.alloc (.cells #[.int .i64 2, .func (.func 99) #[] #[.pointer (some ⟨w1.heap.size + 1, 0, none⟩)], Value.nilFunc] 68)).alloc (.cells #[.func (.func 100) #[] #[]] 65)).cell? ⟨w.heap.size + 1, 0, none⟩ = some (.int .i64 0) := (by { rw [blk_cell hr2]; rfl }); have y1 : ((w1.alloc (.cells #[.int .i64 2, .func (.func 99) #[] #[.pointer (some ⟨w1.heap.size + 1, 0, none⟩)], Value.nilFunc] 68)).alloc (.cells #[.func (.func 100) #[] #[]] 65)).cell? ⟨w.heap.size + 1, 1, none⟩ = some Value.nilFunc := (by { rw [blk_cell hr2]; rfl }); have y2 : ((w1.alloc (.cells #[.int .i64 2, .func (.func 99) #[] #[.pointer (some ⟨w1.heap.size + 1, 0, none⟩)], Value.nilFunc] 68)).alloc (.cells #[.func (.func 100) #[] #[]] 65)).cell? ⟨w.heap.size + 1, 2, none⟩ = some Value.nilFunc := (by { rw [blk_cell hr2]; rfl }); have HNE := hide (show w1.heap.size + 1 ≠ w.heap.size + 1 by have := hg1.size; have := HS.out; omega); have HSZ := hide (show w.heap.size ≤ w1.heap.size + 1 by have := hg1.size; have := HS.out; omega); clear hg1 hgW hr2)
  have hb := rule_put HR2.out (.func (.func 99) #[] #[.pointer (some ⟨w1.heap.size + 1, 0, none⟩)])
  have m0 : (((((w1.alloc (.cells #[.int .i64 2, .func (.func 99) #[] #[.pointer (some ⟨w1.heap.size + 1, 0, none⟩)], Value.nilFunc] 68)).alloc (.cells #[.func (.func 100) #[] #[]] 65)).setCell ⟨w.heap.size + 1, 0, none⟩ (.int .i64 2)).setCell ⟨w.heap.size + 1, 1, none⟩ (.func (.func 99) #[] #[.pointer (some ⟨w1.heap.size + 1, 0, none⟩)])).setCell ⟨w.heap.size + 1, 2, none⟩ Value.nilFunc).cell? ⟨w.heap.size + 1, 0, none⟩ = some (.int .i64 2) := by rw [blk_cell hb]; rfl
  have m1 : (((((w1.alloc (.cells #[.int .i64 2, .func (.func 99) #[] #[.pointer (some ⟨w1.heap.size + 1, 0, none⟩)], Value.nilFunc] 68)).alloc (.cells #[.func (.func 100) #[] #[]] 65)).setCell ⟨w.heap.size + 1, 0, none⟩ (.int .i64 2)).setCell ⟨w.heap.size + 1, 1, none⟩ (.func (.func 99) #[] #[.pointer (some ⟨w1.heap.size + 1, 0, none⟩)])).setCell ⟨w.heap.size + 1, 2, none⟩ Value.nilFunc).cell? ⟨w.heap.size + 1, 1, none⟩ = some (.func (.func 99) #[] #[.pointer (some ⟨w1.heap.size + 1, 0, none⟩)]) := by rw [blk_cell hb]; rfl
  have m2 : (((((w1.alloc (.cells #[.int .i64 2, .func (.func 99) #[] #[.pointer (some ⟨w1.heap.size + 1, 0, none⟩)], Value.nilFunc] 68)).alloc (.cells #[.func (.func 100) #[] #[]] 65)).setCell ⟨w.heap.size + 1, 0, none⟩ (.int .i64 2)).setCell ⟨w.heap.size + 1, 1, none⟩ (.func (.func 99) #[] #[.pointer (some ⟨w1.heap.size + 1, 0, none⟩)])).setCell ⟨w.heap.size + 1, 2, none⟩ Value.nilFunc).cell? ⟨w.heap.size + 1, 2, none⟩ = some Value.nilFunc := by rw [blk_cell hb]; rfl
  refine bodyPost_ret (v := .tuple #[.agg #[.int .i64 2, .func (.func 99) #[] #[.pointer (some ⟨w1.heap.size + 1, 0, none⟩)], Value.nilFunc], .bool true]) (by simp [results, Tryz.results98, go_sem, m0, m1, m2]) rfl ?_
  refine ⟨w1.heap.size + 1, rfl, ?_, rule_gb (w0 := w) HGW.out (Nat.le_succ _) (.func (.func 99) #[] #[.pointer (some ⟨w1.heap.size + 1, 0, none⟩)])⟩
  intro w2 hw2 a b ha hb2
  have hc : ((w1.alloc (.cells #[.int .i64 2, .func (.func 99) #[] #[.pointer (some ⟨w1.heap.size + 1, 0, none⟩)], Value.nilFunc] 68)).alloc (.cells #[.func (.func 100) #[] #[]] 65)).cell? ⟨w1.heap.size + 1, 0, none⟩ = some (.func (.func 100) #[] #[]) := by have hbx := heap_alloc_new (w1.alloc (.cells #[.int .i64 2, .func (.func 99) #[] #[.pointer (some ⟨w1.heap.size + 1, 0, none⟩)], Value.nilFunc] 68)) (.cells #[.func (.func 100) #[] #[]] 65); rw [World.size_alloc] at hbx; rw [blk_cell hbx]; rfl
  have hc2 := (rule_other (.func (.func 99) #[] #[.pointer (some ⟨w1.heap.size + 1, 0, none⟩)]) HNE.out).trans hc
  exact strict_sum a b ha hb2 _ w2 (cell_own hc2 (by intro n h e; cases e) HSZ.out hw2)
set_option maxHeartbeats 2000000 in
set_option maxRecDepth 100000 in
theorem strict_divide (p : Nat) (w : World) (hp : w.cell? ⟨p, 0, none⟩ = some (.func (.func 72) #[] #[])) :
    Calls Tryz.prog 98 #[.agg #[.int .i64 2, .int .i64 2], .pointer (some ⟨p, 0, none⟩)] w (StrR (strictF quoF) w) := by
  obtain ⟨wa, hwa⟩ : ∃ wa, wa = (w.alloc (.cells #[.int .i64 2, .int .i64 2] 72)).alloc (.cells #[.int .i64 0, Value.nilFunc, Value.nilFunc] 68) := ⟨_, rfl⟩
  obtain ⟨hp1, hr, hg, hs⟩ := PairB.mk_ w
  rw [← hwa] at hp1 hr hg hs
  have HR := hide hr
  have HG := hide hg
  have HS := hide hs
  have HWE := hide hwa
  have x0 : wa.cell? ⟨w.heap.size, 0, none⟩ = some (.int .i64 2) := by rw [blk_cell hp1]; rfl
  have x1 : wa.cell? ⟨w.heap.size, 1, none⟩ = some (.int .i64 2) := by rw [blk_cell hp1]; rfl
  have hp := cell_gb hp hg
  have x0a := x0
  have x1a := x1
  have hpa := hp
  rw [hwa] at x0a x1a hpa
  clear hp1 hr hg hwa hs
  go_enter Tryz.func98, Tryz.ntmps98
  go_wp2_with fail
  rw [← HWE.out]
  go_wp2_with (go_at_call 72; refine (divide_ints _).mono ?_; rintro e w1 ⟨q, rfl, hq, hqs, hg1⟩; have HG1 := hide hg1; have HQ := hide hq; have HQS := hide (show w.heap.size ≤ q by have := HS.out; omega); have HNE2 := hide (show q ≠ w.heap.size + 1 by have := HS.out; omega); have hgW := gb_alloc (gb_alloc hg1 (.cells #[.int .i64 2, .func (.func 99) #[] #[.pointer (some ⟨w1.heap.size + 1, 0, none⟩)], Value.nilFunc] 68)) (.cells #[.func (.func 127) #[] #[.pointer (some ⟨q, 0, none⟩)]] 65); have HGW := hide (gb_trans HG.out hgW (.inl rfl)); have hr2 := (hgW.block _ (blk_lt HR.out) (by simp)).trans HR.out; have HR2 := hide hr2; have z0 := blk_frozen hr2 0; have z1 := blk_frozen hr2 1; have z2 := blk_frozen hr2 2; have y0 : ((w1.alloc (.cells #[.int .i64 2, .func (.func 99) #[] #[.pointer (some ⟨w1.heap.size + 1, 0, none⟩)], Value.nilFunc] 68)).alloc (.cells #[.func (.func 127) #[] #[.pointer (some ⟨q, 0, none⟩)]] 65)).cell? ⟨w.heap.size + 1, 0, none⟩ = some (.int .i64 0) := (by { rw [blk_cell hr2]; rfl }); have y1 : ((w1.alloc (.cells #[.int .i64 2, .func (.func 99) #[] #[.pointer (some ⟨w1.heap.size + 1, 0, none⟩)], Value.nilFunc] 68)).alloc (.cells #[.func (.func 127) #[] #[.pointer (some ⟨q, 0, none⟩)]] 65)).cell? ⟨w.heap.size + 1, 1, none⟩ = some Value.nilFunc := (by { rw [blk_cell hr2]; rfl }); have y2 : ((w1.alloc (.cells #[.int .i64 2, .func (.func 99) #[] #[.pointer (some ⟨w1.heap.size + 1, 0, none⟩)], Value.nilFunc] 68)).alloc (.cells #[.func (.func 127) #[] #[.pointer (some ⟨q, 0, none⟩)]] 65)).cell? ⟨w.heap.size + 1, 2, none⟩ = some Value.nilFunc := (by { rw [blk_cell hr2]; rfl }); have HNE := hide (show w1.heap.size + 1 ≠ w.heap.size + 1 by have := hg1.size; have := HS.out; omega); have HSZ := hide (show w.heap.size ≤ w1.heap.size + 1 by have := hg1.size; have := HS.out; omega); clear hg1 hgW hr2 hq hqs)
  have hb := rule_put HR2.out (.func (.func 99) #[] #[.pointer (some ⟨w1.heap.size + 1, 0, none⟩)])
  have m0 : (((((w1.alloc (.cells #[.int .i64 2, .func (.func 99) #[] #[.pointer (some ⟨w1.heap.size + 1, 0, none⟩)], Value.nilFunc] 68)).alloc (.cells #[.func (.func 127) #[] #[.pointer (some ⟨q, 0, none⟩)]] 65)).setCell ⟨w.heap.size + 1, 0, none⟩ (.int .i64 2)).setCell ⟨w.heap.size + 1, 1, none⟩ (.func (.func 99) #[] #[.pointer (some ⟨w1.heap.size + 1, 0, none⟩)])).setCell ⟨w.heap.size + 1, 2, none⟩ Value.nilFunc).cell? ⟨w.heap.size + 1, 0, none⟩ = some (.int .i64 2) := by rw [blk_cell hb]; rfl
  have m1 : (((((w1.alloc (.cells #[.int .i64 2, .func (.func 99) #[] #[.pointer (some ⟨w1.heap.size + 1, 0, none⟩)], Value.nilFunc] 68)).alloc (.cells #[.func (.func 127) #[] #[.pointer (some ⟨q, 0, none⟩)]] 65)).setCell ⟨w.heap.size + 1, 0, none⟩ (.int .i64 2)).setCell ⟨w.heap.size + 1, 1, none⟩ (.func (.func 99) #[] #[.pointer (some ⟨w1.heap.size + 1, 0, none⟩)])).setCell ⟨w.heap.size + 1, 2, none⟩ Value.nilFunc).cell? ⟨w.heap.size + 1, 1, none⟩ = some (.func (.func 99) #[] #[.pointer (some ⟨w1.heap.size + 1, 0, none⟩)]) := by rw [blk_cell hb]; rfl
  have m2 : (((((w1.alloc (.cells #[.int .i64 2, .func (.func 99) #[] #[.pointer (some ⟨w1.heap.size + 1, 0, none⟩)], Value.nilFunc] 68)).alloc (.cells #[.func (.func 127) #[] #[.pointer (some ⟨q, 0, none⟩)]] 65)).setCell ⟨w.heap.size + 1, 0, none⟩ (.int .i64 2)).setCell ⟨w.heap.size + 1, 1, none⟩ (.func (.func 99) #[] #[.pointer (some ⟨w1.heap.size + 1, 0, none⟩)])).setCell ⟨w.heap.size + 1, 2, none⟩ Value.nilFunc).cell? ⟨w.heap.size + 1, 2, none⟩ = some Value.nilFunc := by rw [blk_cell hb]; rfl
  refine bodyPost_ret (v := .tuple #[.agg #[.int .i64 2, .func (.func 99) #[] #[.pointer (some ⟨w1.heap.size + 1, 0, none⟩)], Value.nilFunc], .bool true]) (by simp [results, Tryz.results98, go_sem, m0, m1, m2]) rfl ?_
  refine ⟨w1.heap.size + 1, rfl, ?_, rule_gb (w0 := w) HGW.out (Nat.le_succ _) (.func (.func 99) #[] #[.pointer (some ⟨w1.heap.size + 1, 0, none⟩)])⟩
  intro w2 hw2 a b ha hb2
  have hc : ((w1.alloc (.cells #[.int .i64 2, .func (.func 99) #[] #[.pointer (some ⟨w1.heap.size + 1, 0, none⟩)], Value.nilFunc] 68)).alloc (.cells #[.func (.func 127) #[] #[.pointer (some ⟨q, 0, none⟩)]] 65)).cell? ⟨w1.heap.size + 1, 0, none⟩ = some (.func (.func 127) #[] #[.pointer (some ⟨q, 0, none⟩)]) := by have hbx := heap_alloc_new (w1.alloc (.cells #[.int .i64 2, .func (.func 99) #[] #[.pointer (some ⟨w1.heap.size + 1, 0, none⟩)], Value.nilFunc] 68)) (.cells #[.func (.func 127) #[] #[.pointer (some ⟨q, 0, none⟩)]] 65); rw [World.size_alloc] at hbx; rw [blk_cell hbx]; rfl
  have hc2 := (rule_other (.func (.func 99) #[] #[.pointer (some ⟨w1.heap.size + 1, 0, none⟩)]) HNE.out).trans hc
  have hq1 := cell_gb HQ.out (gb_alloc (gb_alloc (gb_refl w1 none) (.cells #[.int .i64 2, .func (.func 99) #[] #[.pointer (some ⟨w1.heap.size + 1, 0, none⟩)], Value.nilFunc] 68)) (.cells #[.func (.func 127) #[] #[.pointer (some ⟨q, 0, none⟩)]] 65))
  have hq2 := (rule_other (.func (.func 99) #[] #[.pointer (some ⟨w1.heap.size + 1, 0, none⟩)]) HNE2.out).trans hq1
  exact strict_quo a b ha hb2 _ q w2 (cell_own hc2 (by intro n h e; cases e) HSZ.out hw2) (cell_own hq2 (by intro n h e; cases e; exact h rfl) HQS.out hw2)
set_option maxHeartbeats 2000000 in
set_option maxRecDepth 100000 in
theorem strict_modulo (p : Nat) (w : World) (hp : w.cell? ⟨p, 0, none⟩ = some (.func (.func 73) #[] #[])) :
    Calls Tryz.prog 98 #[.agg #[.int .i64 2, .int .i64 2], .pointer (some ⟨p, 0, none⟩)] w (StrR (strictF remF) w) := by
  obtain ⟨wa, hwa⟩ : ∃ wa, wa = (w.alloc (.cells #[.int .i64 2, .int .i64 2] 72)).alloc (.cells #[.int .i64 0, Value.nilFunc, Value.nilFunc] 68) := ⟨_, rfl⟩
  obtain ⟨hp1, hr, hg, hs⟩ := PairB.mk_ w
  rw [← hwa] at hp1 hr hg hs
  have HR := hide hr
  have HG := hide hg
  have HS := hide hs
  have HWE := hide hwa
  have x0 : wa.cell? ⟨w.heap.size, 0, none⟩ = some (.int .i64 2) := by rw [blk_cell hp1]; rfl
  have x1 : wa.cell? ⟨w.heap.size, 1, none⟩ = some (.int .i64 2) := by rw [blk_cell hp1]; rfl
  have hp := cell_gb hp hg
  have x0a := x0
  have x1a := x1
  have hpa := hp
  rw [hwa] at x0a x1a hpa
  clear hp1 hr hg hwa hs
  go_enter Tryz.func98, Tryz.ntmps98
  go_wp2_with fail
  rw [← HWE.out]
  go_wp2_with (go_at_call 73; refine (modulo_ints _).mono ?_; rintro e w1 ⟨rfl, hg1⟩; have HG1 := hide hg1; have hgW := gb_alloc (gb_alloc hg1 (.cells #[.int .i64 2, .func (.func 99) #[] #[.pointer (some ⟨w1.heap.size + 1, 0, none⟩)], Value.nilFunc] 68)) (.cells #[.func (.func 35) #[] #[]] 65); have HGW := hide (gb_trans HG.out hgW (.inl rfl)); have hr2 := (hgW.block _ (blk_lt HR.out) (by simp)).trans HR.out; have HR2 := hide hr2; have z0 := blk_frozen hr2 0; have z1 := blk_frozen hr2 1; have z2 := blk_frozen hr2 2; have y0 : ((w1.alloc (.cells #[.int .i64 2, .func (.func 99) #[] #[.pointer (some ⟨w1.heap.size + 1, 0, none⟩)], Value.nilFunc] 68)).alloc (.cells #[.func (.func 35) #[] #[]] 65)).cell? ⟨w.heap.size + 1, 0, none⟩ = some (.int .i64 0) := (by { rw [blk_cell hr2]; rfl }); have y1 : ((w1.alloc (.cells #[.int .i64 2, .func (.func 99) #[] #[.pointer (some ⟨w1.heap.size + 1, 0, none⟩)], Value.nilFunc] 68)).alloc (.cells #[.func (.func 35) #[] #[]] 65)).cell? ⟨w.heap.size + 1, 1, none⟩ = some Value.nilFunc := (by { rw [blk_cell hr2]; rfl }); have y2 : ((w1.alloc (.cells #[.int .i64 2, .func (.func 99) #[] #[.pointer (some ⟨w1.heap.size + 1, 0, none⟩)], Value.nilFunc] 68)).alloc (.cells #[.func (.func 35) #[] #[]] 65)).cell? ⟨w.heap.size + 1, 2, none⟩ = some Value.nilFunc := (by { rw [blk_cell hr2]; rfl }); have HNE := hide (show w1.heap.size + 1 ≠ w.heap.size + 1 by have := hg1.size; have := HS.out; omega); have HSZ := hide (show w.heap.size ≤ w1.heap.size + 1 by have := hg1.size; have := HS.out; omega); clear hg1 hgW hr2)
  have hb := rule_put HR2.out (.func (.func 99) #[] #[.pointer (some ⟨w1.heap.size + 1, 0, none⟩)])
  have m0 : (((((w1.alloc (.cells #[.int .i64 2, .func (.func 99) #[] #[.pointer (some ⟨w1.heap.size + 1, 0, none⟩)], Value.nilFunc] 68)).alloc (.cells #[.func (.func 35) #[] #[]] 65)).setCell ⟨w.heap.size + 1, 0, none⟩ (.int .i64 2)).setCell ⟨w.heap.size + 1, 1, none⟩ (.func (.func 99) #[] #[.pointer (some ⟨w1.heap.size + 1, 0, none⟩)])).setCell ⟨w.heap.size + 1, 2, none⟩ Value.nilFunc).cell? ⟨w.heap.size + 1, 0, none⟩ = some (.int .i64 2) := by rw [blk_cell hb]; rfl
  have m1 : (((((w1.alloc (.cells #[.int .i64 2, .func (.func 99) #[] #[.pointer (some ⟨w1.heap.size + 1, 0, none⟩)], Value.nilFunc] 68)).alloc (.cells #[.func (.func 35) #[] #[]] 65)).setCell ⟨w.heap.size + 1, 0, none⟩ (.int .i64 2)).setCell ⟨w.heap.size + 1, 1, none⟩ (.func (.func 99) #[] #[.pointer (some ⟨w1.heap.size + 1, 0, none⟩)])).setCell ⟨w.heap.size + 1, 2, none⟩ Value.nilFunc).cell? ⟨w.heap.size + 1, 1, none⟩ = some (.func (.func 99) #[] #[.pointer (some ⟨w1.heap.size + 1, 0, none⟩)]) := by rw [blk_cell hb]; rfl
  have m2 : (((((w1.alloc (.cells #[.int .i64 2, .func (.func 99) #[] #[.pointer (some ⟨w1.heap.size + 1, 0, none⟩)], Value.nilFunc] 68)).alloc (.cells #[.func (.func 35) #[] #[]] 65)).setCell ⟨w.heap.size + 1, 0, none⟩ (.int .i64 2)).setCell ⟨w.heap.size + 1, 1, none⟩ (.func (.func 99) #[] #[.pointer (some ⟨w1.heap.size + 1, 0, none⟩)])).setCell ⟨w.heap.size + 1, 2, none⟩ Value.nilFunc).cell? ⟨w.heap.size + 1, 2, none⟩ = some Value.nilFunc := by rw [blk_cell hb]; rfl
  refine bodyPost_ret (v := .tuple #[.agg #[.int .i64 2, .func (.func 99) #[] #[.pointer (some ⟨w1.heap.size + 1, 0, none⟩)], Value.nilFunc], .bool true]) (by simp [results, Tryz.results98, go_sem, m0, m1, m2]) rfl ?_
  refine ⟨w1.heap.size + 1, rfl, ?_, rule_gb (w0 := w) HGW.out (Nat.le_succ _) (.func (.func 99) #[] #[.pointer (some ⟨w1.heap.size + 1, 0, none⟩)])⟩
  intro w2 hw2 a b ha hb2
  have hc : ((w1.alloc (.cells #[.int .i64 2, .func (.func 99) #[] #[.pointer (some ⟨w1.heap.size + 1, 0, none⟩)], Value.nilFunc] 68)).alloc (.cells #[.func (.func 35) #[] #[]] 65)).cell? ⟨w1.heap.size + 1, 0, none⟩ = some (.func (.func 35) #[] #[]) := by have hbx := heap_alloc_new (w1.alloc (.cells #[.int .i64 2, .func (.func 99) #[] #[.pointer (some ⟨w1.heap.size + 1, 0, none⟩)], Value.nilFunc] 68)) (.cells #[.func (.func 35) #[] #[]] 65); rw [World.size_alloc] at hbx; rw [blk_cell hbx]; rfl
  have hc2 := (rule_other (.func (.func 99) #[] #[.pointer (some ⟨w1.heap.size + 1, 0, none⟩)]) HNE.out).trans hc
  exact strict_rem a b ha hb2 _ w2 (cell_own hc2 (by intro n h e; cases e) HSZ.out hw2)
end Go.Proofs.YtnilcnobngcbgaaGreat
