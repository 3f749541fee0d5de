/-
  vec.Take, Drop and Reverse of any vector or list.
-/
import Derived.Test.YtgepejnooghjbaaGreatQaj
import Derived.Test.YtgepejnooghjbaaGreatQak
import Derived.Test.YtgepejnooghjbaaGreatQam
import Derived.Test.YtgepejnooghjbaaGreatQaq
import Derived.Test.YtgepejnooghjbaaGreatQar
import Derived.Test.YtgepejnooghjbaaGreatQas
import Derived.Shelf.Spec.SlicesGrow
import Derived.Test.YtgepejnooghjbaaGreatQal

namespace Go.Proofs.YtgepejnooghjbaaGreat
open Go.RowKit
attribute [local go_sem ↓] Go.wp_at_zero Go.wp_at_succ

theorem pair_44 (w : World) : (Op.equalIn 10000 103 (.agg #[.int .i64 2, .int .i64 2]) (.agg #[.int .i64 4, .int .i64 4])).run Tryz.prog w = .ok false w := by kernel_rfl
/-- The difference, where it is a number. -/
def difF (a b : Int) : Option Int := sumF a (-b)
set_option maxHeartbeats 2000000 in
set_option maxRecDepth 100000 in
theorem dif_any (a b : Int) (ha : Num64 a) (hb : Num64 b) (w : World) : Calls Tryz.prog 148 #[.int .i64 a, .int .i64 b] w (NumR (difF a b) w) := by
  have hn : IntKind.i64.wrap (-b) = -b := by have := hb.1; have := hb.2; rw [IntKind.wrap_i64]; omega
  have hb2 : Num64 (-b) := ⟨by have := hb.2; omega, by have := hb.1; omega⟩
  unfold difF
  obtain ⟨b2, hbe⟩ : ∃ b2, b2 = -b := ⟨_, rfl⟩
  have hn2 : IntKind.i64.wrap (-b) = b2 := hn.trans hbe.symm
  rw [← hbe] at hb2 ⊢
  clear hbe hn
  rcases hsum : sumF a b2 with _ | n
  · have C := hide (fun w2 => (show Calls Tryz.prog 146 #[.int .i64 a, .int .i64 b2] w2 (NumR none w2) from (congrArg (fun r => Calls Tryz.prog 146 #[.int .i64 a, .int .i64 b2] w2 (NumR r w2)) hsum).mp (sum_any a b2 ha hb2 w2)))
    clear ha hb hb2 hsum
    go_enter Tryz.func148, Tryz.ntmps148
    go_wp2_with (go_at_call 146; refine (C.out _).mono ?_; rintro e w1 ⟨hg1, rfl⟩; have HG := hide hg1; clear hg1)
    exact bodyPost_ret (v := .tuple #[.int .i64 0, .bool false]) (by simp [results, Tryz.results148, go_sem]) rfl ⟨HG.out, rfl⟩
  · have C := hide (fun w2 => (show Calls Tryz.prog 146 #[.int .i64 a, .int .i64 b2] w2 (NumR (some n) w2) from (congrArg (fun r => Calls Tryz.prog 146 #[.int .i64 a, .int .i64 b2] w2 (NumR r w2)) hsum).mp (sum_any a b2 ha hb2 w2)))
    clear ha hb hb2 hsum
    go_enter Tryz.func148, Tryz.ntmps148
    go_wp2_with (go_at_call 146; refine (C.out _).mono ?_; rintro e w1 ⟨hg1, rfl⟩; have HG := hide hg1; clear hg1)
    exact bodyPost_ret (v := .tuple #[.int .i64 n, .bool true]) (by simp [results, Tryz.results148, go_sem]) rfl ⟨HG.out, rfl⟩
set_option maxHeartbeats 2000000 in
set_option maxRecDepth 100000 in
theorem alike_dif (w : World) : Calls Tryz.prog 147 #[.func (.func 148) #[] #[], .agg #[.int .i64 2, .int .i64 2]] w fun e w' => RuleE (.func (.func 148) #[] #[]) e ∧ w.grownBy w' none := by
  obtain ⟨wa, hwa⟩ : ∃ wa, wa = (w.alloc (.cells #[.int .i64 2, .int .i64 2] 103)).alloc (.cells #[.int .i64 0, Value.nilFunc, Value.nilFunc] 99) := ⟨_, rfl⟩
  obtain ⟨hp, hr, hg, hs⟩ := PairB.mk_ w
  rw [← hwa] at hp hr hg hs
  have HP := hide hp
  have HR := hide hr
  have HG := hide hg
  have HS := hide hs
  have HWE := hide hwa
  have p1 := pair_eq
  have p2 := pair_42
  have p3 := pair_24
  have x0 : wa.cell? ⟨w.heap.size, 0, none⟩ = some (.int .i64 2) := by rw [blk_cell hp]; rfl
  have x1 : wa.cell? ⟨w.heap.size, 1, none⟩ = some (.int .i64 2) := by rw [blk_cell hp]; rfl
  clear hp hr hg hwa hs
  go_enter Tryz.func147, Tryz.ntmps147
  go_wp2_with fail
  rw [← HWE.out]
  go_wp2_with (go_at_call 149; refine (both_any 2 _).mono ?_; rintro e w1 ⟨rfl, hg1⟩; have HG1 := hide (hg1); have x0 := cell_gb x0 hg1; have x1 := cell_gb x1 hg1; have hr2 := (HG1.out.block _ (blk_lt HR.out) (by simp)).trans HR.out; have HR2 := hide hr2; have z0 := blk_frozen hr2 0; have z1 := blk_frozen hr2 1; have z2 := blk_frozen hr2 2; have y0 : w1.cell? ⟨w.heap.size + 1, 0, none⟩ = some (.int .i64 0) := (by { rw [blk_cell hr2]; rfl }); have y1 : w1.cell? ⟨w.heap.size + 1, 1, none⟩ = some Value.nilFunc := (by { rw [blk_cell hr2]; rfl }); have y2 : w1.cell? ⟨w.heap.size + 1, 2, none⟩ = some Value.nilFunc := (by { rw [blk_cell hr2]; rfl }); clear hr2; clear hg1)
  have hb := rule_put HR2.out (.func (.func 148) #[] #[])
  have m0 : (((w1.setCell ⟨w.heap.size + 1, 0, none⟩ (.int .i64 2)).setCell ⟨w.heap.size + 1, 1, none⟩ (.func (.func 148) #[] #[])).setCell ⟨w.heap.size + 1, 2, none⟩ Value.nilFunc).cell? ⟨w.heap.size + 1, 0, none⟩ = some (.int .i64 2) := by rw [blk_cell hb]; rfl
  have m1 : (((w1.setCell ⟨w.heap.size + 1, 0, none⟩ (.int .i64 2)).setCell ⟨w.heap.size + 1, 1, none⟩ (.func (.func 148) #[] #[])).setCell ⟨w.heap.size + 1, 2, none⟩ Value.nilFunc).cell? ⟨w.heap.size + 1, 1, none⟩ = some (.func (.func 148) #[] #[]) := by rw [blk_cell hb]; rfl
  have m2 : (((w1.setCell ⟨w.heap.size + 1, 0, none⟩ (.int .i64 2)).setCell ⟨w.heap.size + 1, 1, none⟩ (.func (.func 148) #[] #[])).setCell ⟨w.heap.size + 1, 2, none⟩ Value.nilFunc).cell? ⟨w.heap.size + 1, 2, none⟩ = some Value.nilFunc := by rw [blk_cell hb]; rfl
  refine bodyPost_ret (v := .tuple #[.agg #[.int .i64 2, .func (.func 148) #[] #[], Value.nilFunc], .bool true]) (by simp [results, Tryz.results147, go_sem, m0, m1, m2]) rfl ?_
  exact ⟨rfl, rule_gb (w0 := w) (gb_trans HG.out HG1.out (.inl rfl)) (Nat.le_succ _) (.func (.func 148) #[] #[])⟩
set_option maxHeartbeats 2000000 in
set_option maxRecDepth 100000 in
theorem subtract_ints (w : World) : Calls Tryz.prog 104 #[.agg #[.int .i64 2, .int .i64 2]] w fun e w' => RuleE (.func (.func 148) #[] #[]) e ∧ w.grownBy w' none := by
  obtain ⟨wa, hwa⟩ : ∃ wa, wa = (w.alloc (.cells #[.int .i64 2, .int .i64 2] 103)).alloc (.cells #[.int .i64 0, Value.nilFunc, Value.nilFunc] 99) := ⟨_, rfl⟩
  obtain ⟨hp, hr, hg, hs⟩ := PairB.mk_ w
  rw [← hwa] at hp hr hg hs
  have HP := hide hp
  have HR := hide hr
  have HG := hide hg
  have HS := hide hs
  have HWE := hide hwa
  have p1 := pair_eq
  have p2 := pair_42
  have p3 := pair_44
  have x0 : wa.cell? ⟨w.heap.size, 0, none⟩ = some (.int .i64 2) := by rw [blk_cell hp]; rfl
  have x1 : wa.cell? ⟨w.heap.size, 1, none⟩ = some (.int .i64 2) := by rw [blk_cell hp]; rfl
  clear hp hr hg hwa hs
  go_enter Tryz.func104, Tryz.ntmps104
  go_wp2_with fail
  rw [← HWE.out]
  go_wp2_with (first | (go_at_call 149; refine (both_any 4 _).mono ?_; rintro e w0 ⟨rfl, hg0⟩; have HG0 := hide hg0; have x0 := cell_gb x0 hg0; have x1 := cell_gb x1 hg0; clear hg0) | (go_at_call 147; refine (alike_dif _).mono ?_; rintro e w1 ⟨rfl, hg1⟩; have HG1 := hide hg1; have hr2 := ((gb_trans HG0.out HG1.out (.inl rfl)).block _ (blk_lt HR.out) (by simp)).trans HR.out; have HR2 := hide hr2; have z0 := blk_frozen hr2 0; have z1 := blk_frozen hr2 1; have z2 := blk_frozen hr2 2; have y0 : w1.cell? ⟨w.heap.size + 1, 0, none⟩ = some (.int .i64 0) := (by { rw [blk_cell hr2]; rfl }); have y1 : w1.cell? ⟨w.heap.size + 1, 1, none⟩ = some Value.nilFunc := (by { rw [blk_cell hr2]; rfl }); have y2 : w1.cell? ⟨w.heap.size + 1, 2, none⟩ = some Value.nilFunc := (by { rw [blk_cell hr2]; rfl }); clear hr2; clear hg1))
  have hb := rule_put HR2.out (.func (.func 148) #[] #[])
  have m0 : (((w1.setCell ⟨w.heap.size + 1, 0, none⟩ (.int .i64 2)).setCell ⟨w.heap.size + 1, 1, none⟩ (.func (.func 148) #[] #[])).setCell ⟨w.heap.size + 1, 2, none⟩ Value.nilFunc).cell? ⟨w.heap.size + 1, 0, none⟩ = some (.int .i64 2) := by rw [blk_cell hb]; rfl
  have m1 : (((w1.setCell ⟨w.heap.size + 1, 0, none⟩ (.int .i64 2)).setCell ⟨w.heap.size + 1, 1, none⟩ (.func (.func 148) #[] #[])).setCell ⟨w.heap.size + 1, 2, none⟩ Value.nilFunc).cell? ⟨w.heap.size + 1, 1, none⟩ = some (.func (.func 148) #[] #[]) := by rw [blk_cell hb]; rfl
  have m2 : (((w1.setCell ⟨w.heap.size + 1, 0, none⟩ (.int .i64 2)).setCell ⟨w.heap.size + 1, 1, none⟩ (.func (.func 148) #[] #[])).setCell ⟨w.heap.size + 1, 2, none⟩ Value.nilFunc).cell? ⟨w.heap.size + 1, 2, none⟩ = some Value.nilFunc := by rw [blk_cell hb]; rfl
  refine bodyPost_ret (v := .tuple #[.agg #[.int .i64 2, .func (.func 148) #[] #[], Value.nilFunc], .bool true]) (by simp [results, Tryz.results104, go_sem, m0, m1, m2]) rfl ?_
  exact ⟨rfl, rule_gb (w0 := w) (gb_trans HG.out (gb_trans HG0.out HG1.out (.inl rfl)) (.inl rfl)) (Nat.le_succ _) (.func (.func 148) #[] #[])⟩
set_option maxHeartbeats 2000000 in
set_option maxRecDepth 100000 in
theorem strict_dif (a b : Int) (ha : I64 a) (hb : I64 b) (g : Nat) (w : World) (hc : w.cell? ⟨g, 0, none⟩ = some (.func (.func 148) #[] #[])) :
    Calls Tryz.prog 145 #[.int .i64 a, .int .i64 b, .pointer (some ⟨g, 0, none⟩)] w (NumR (strictF difF a b) w) := by
  by_cases h : a = -9223372036854775808 ∨ b = -9223372036854775808
  · exact strict_null difF a b g h w
  have h0 : a ≠ -9223372036854775808 := fun e => h (.inl e)
  have h1 : b ≠ -9223372036854775808 := fun e => h (.inr e)
  have e1 := int_beq_f h0
  have e2 := int_beq_f h1
  have HN := hide (show strictF difF a b = difF a b by unfold strictF; rw [if_neg h])
  rcases hdif : difF a b with _ | n
  · rw [hdif] at HN
    have C := hide (fun w2 => (hdif ▸ dif_any a b (ha.num h0) (hb.num h1) w2 : Calls Tryz.prog 148 #[.int .i64 a, .int .i64 b] w2 (NumR none w2)))
    clear h h0 h1 ha hb hdif
    go_enter Tryz.func145, Tryz.ntmps145
    go_wp2_with (go_at_call 148; refine (C.out _).mono ?_; rintro e w1 ⟨hg1, rfl⟩; have HG := hide hg1; clear hg1)
    exact bodyPost_ret (v := .tuple #[.int .i64 0, .bool false]) (by simp [results, Tryz.results145, go_sem]) rfl ⟨HG.out, by rw [HN.out]⟩
  · rw [hdif] at HN
    have C := hide (fun w2 => (hdif ▸ dif_any a b (ha.num h0) (hb.num h1) w2 : Calls Tryz.prog 148 #[.int .i64 a, .int .i64 b] w2 (NumR (some n) w2)))
    clear h h0 h1 ha hb hdif
    go_enter Tryz.func145, Tryz.ntmps145
    go_wp2_with (go_at_call 148; refine (C.out _).mono ?_; rintro e w1 ⟨hg1, rfl⟩; have HG := hide hg1; clear hg1)
    exact bodyPost_ret (v := .tuple #[.int .i64 n, .bool true]) (by simp [results, Tryz.results145, go_sem]) rfl ⟨HG.out, by rw [HN.out]⟩
set_option maxHeartbeats 2000000 in
set_option maxRecDepth 100000 in
theorem strict_subtract (p : Nat) (w : World) (hp : w.cell? ⟨p, 0, none⟩ = some (.func (.func 104) #[] #[])) :
    Calls Tryz.prog 144 #[.agg #[.int .i64 2, .int .i64 2], .pointer (some ⟨p, 0, none⟩)] w (StrR (strictF difF) w) := by
  obtain ⟨wa, hwa⟩ : ∃ wa, wa = (w.alloc (.cells #[.int .i64 2, .int .i64 2] 103)).alloc (.cells #[.int .i64 0, Value.nilFunc, Value.nilFunc] 99) := ⟨_, rfl⟩
  obtain ⟨hp1, hr, hg, hs⟩ := PairB.mk_ w
  rw [← hwa] at hp1 hr hg hs
  have HR := hide hr
  have HG := hide hg
  have HS := hide hs
  have HWE := hide hwa
  have x0 : wa.cell? ⟨w.heap.size, 0, none⟩ = some (.int .i64 2) := by rw [blk_cell hp1]; rfl
  have x1 : wa.cell? ⟨w.heap.size, 1, none⟩ = some (.int .i64 2) := by rw [blk_cell hp1]; rfl
  have hp := cell_gb hp hg
  have x0a := x0
  have x1a := x1
  have hpa := hp
  rw [hwa] at x0a x1a hpa
  clear hp1 hr hg hwa hs
  go_enter Tryz.func144, Tryz.ntmps144
  go_wp2_with fail
  rw [← HWE.out]
  go_wp2_with (go_at_call 104; refine (subtract_ints _).mono ?_; rintro e w1 ⟨rfl, hg1⟩; have HG1 := hide hg1; have hgW := gb_alloc (gb_alloc hg1 (.cells #[.int .i64 2, .func (.func 145) #[] #[.pointer (some ⟨w1.heap.size + 1, 0, none⟩)], Value.nilFunc] 99)) (.cells #[.func (.func 148) #[] #[]] 96); have HGW := hide (gb_trans HG.out hgW (.inl rfl)); have hr2 := (hgW.block _ (blk_lt HR.out) (by simp)).trans HR.out; have HR2 := hide hr2; have z0 := blk_frozen hr2 0; have z1 := blk_frozen hr2 1; have z2 := blk_frozen hr2 2; have y0 : ((w1.alloc (.cells #[.int .i64 2, .func (.func 145) #[] #[.pointer (some ⟨w1.heap.size + 1, 0, none⟩)], Value.nilFunc] 99)).alloc (.cells #[.func (.func 148) #[] #[]] 96)).cell? ⟨w.heap.size + 1, 0, none⟩ = some (.int .i64 0) := (by { rw [blk_cell hr2]; rfl }); have y1 : ((w1.alloc (.cells #[.int .i64 2, .func (.func 145) #[] #[.pointer (some ⟨w1.heap.size + 1, 0, none⟩)], Value.nilFunc] 99)).alloc (.cells #[.func (.func 148) #[] #[]] 96)).cell? ⟨w.heap.size + 1, 1, none⟩ = some Value.nilFunc := (by { rw [blk_cell hr2]; rfl }); have y2 : ((w1.alloc (.cells #[.int .i64 2, .func (.func 145) #[] #[.pointer (some ⟨w1.heap.size + 1, 0, none⟩)], Value.nilFunc] 99)).alloc (.cells #[.func (.func 148) #[] #[]] 96)).cell? ⟨w.heap.size + 1, 2, none⟩ = some Value.nilFunc := (by { rw [blk_cell hr2]; rfl }); have HNE := hide (show w1.heap.size + 1 ≠ w.heap.size + 1 by have := hg1.size; have := HS.out; omega); have HSZ := hide (show w.heap.size ≤ w1.heap.size + 1 by have := hg1.size; have := HS.out; omega); clear hg1 hgW hr2)
  have hb := rule_put HR2.out (.func (.func 145) #[] #[.pointer (some ⟨w1.heap.size + 1, 0, none⟩)])
  have m0 : (((((w1.alloc (.cells #[.int .i64 2, .func (.func 145) #[] #[.pointer (some ⟨w1.heap.size + 1, 0, none⟩)], Value.nilFunc] 99)).alloc (.cells #[.func (.func 148) #[] #[]] 96)).setCell ⟨w.heap.size + 1, 0, none⟩ (.int .i64 2)).setCell ⟨w.heap.size + 1, 1, none⟩ (.func (.func 145) #[] #[.pointer (some ⟨w1.heap.size + 1, 0, none⟩)])).setCell ⟨w.heap.size + 1, 2, none⟩ Value.nilFunc).cell? ⟨w.heap.size + 1, 0, none⟩ = some (.int .i64 2) := by rw [blk_cell hb]; rfl
  have m1 : (((((w1.alloc (.cells #[.int .i64 2, .func (.func 145) #[] #[.pointer (some ⟨w1.heap.size + 1, 0, none⟩)], Value.nilFunc] 99)).alloc (.cells #[.func (.func 148) #[] #[]] 96)).setCell ⟨w.heap.size + 1, 0, none⟩ (.int .i64 2)).setCell ⟨w.heap.size + 1, 1, none⟩ (.func (.func 145) #[] #[.pointer (some ⟨w1.heap.size + 1, 0, none⟩)])).setCell ⟨w.heap.size + 1, 2, none⟩ Value.nilFunc).cell? ⟨w.heap.size + 1, 1, none⟩ = some (.func (.func 145) #[] #[.pointer (some ⟨w1.heap.size + 1, 0, none⟩)]) := by rw [blk_cell hb]; rfl
  have m2 : (((((w1.alloc (.cells #[.int .i64 2, .func (.func 145) #[] #[.pointer (some ⟨w1.heap.size + 1, 0, none⟩)], Value.nilFunc] 99)).alloc (.cells #[.func (.func 148) #[] #[]] 96)).setCell ⟨w.heap.size + 1, 0, none⟩ (.int .i64 2)).setCell ⟨w.heap.size + 1, 1, none⟩ (.func (.func 145) #[] #[.pointer (some ⟨w1.heap.size + 1, 0, none⟩)])).setCell ⟨w.heap.size + 1, 2, none⟩ Value.nilFunc).cell? ⟨w.heap.size + 1, 2, none⟩ = some Value.nilFunc := by rw [blk_cell hb]; rfl
  refine bodyPost_ret (v := .tuple #[.agg #[.int .i64 2, .func (.func 145) #[] #[.pointer (some ⟨w1.heap.size + 1, 0, none⟩)], Value.nilFunc], .bool true]) (by simp [results, Tryz.results144, go_sem, m0, m1, m2]) rfl ?_
  refine ⟨w1.heap.size + 1, rfl, ?_, rule_gb (w0 := w) HGW.out (Nat.le_succ _) (.func (.func 145) #[] #[.pointer (some ⟨w1.heap.size + 1, 0, none⟩)])⟩
  intro w2 hw2 a b ha hb2
  have hc : ((w1.alloc (.cells #[.int .i64 2, .func (.func 145) #[] #[.pointer (some ⟨w1.heap.size + 1, 0, none⟩)], Value.nilFunc] 99)).alloc (.cells #[.func (.func 148) #[] #[]] 96)).cell? ⟨w1.heap.size + 1, 0, none⟩ = some (.func (.func 148) #[] #[]) := by have hbx := heap_alloc_new (w1.alloc (.cells #[.int .i64 2, .func (.func 145) #[] #[.pointer (some ⟨w1.heap.size + 1, 0, none⟩)], Value.nilFunc] 99)) (.cells #[.func (.func 148) #[] #[]] 96); rw [World.size_alloc] at hbx; rw [blk_cell hbx]; rfl
  have hc2 := (rule_other (.func (.func 145) #[] #[.pointer (some ⟨w1.heap.size + 1, 0, none⟩)]) HNE.out).trans hc
  exact strict_dif a b ha hb2 _ w2 (cell_own hc2 (by intro n h e; cases e) HSZ.out hw2)
/-- The ten operations, made: of the second one, what it asks. -/
def OpsS (w : World) (e : Ending) (w' : World) : Prop := ∃ p0 p1 p2 p3 p4 p5 p6 p7 p8 p9, e = .returned (.agg #[.func (.func 144) #[] #[.pointer (some ⟨p0, 0, none⟩)], .func (.func 144) #[] #[.pointer (some ⟨p1, 0, none⟩)], .func (.func 144) #[] #[.pointer (some ⟨p2, 0, none⟩)], .func (.func 144) #[] #[.pointer (some ⟨p3, 0, none⟩)], .func (.func 144) #[] #[.pointer (some ⟨p4, 0, none⟩)], .func (.func 153) #[] #[.pointer (some ⟨p5, 0, none⟩)], .func (.func 153) #[] #[.pointer (some ⟨p6, 0, none⟩)], .func (.func 154) #[] #[.pointer (some ⟨p7, 0, none⟩)], .func (.func 154) #[] #[.pointer (some ⟨p8, 0, none⟩)], .func (.func 154) #[] #[.pointer (some ⟨p9, 0, none⟩)]]) ∧
  w'.cell? ⟨p1, 0, none⟩ = some (.func (.func 104) #[] #[]) ∧ w.grownBy w' none
section
attribute [-go_sem] Go.storeCells
set_option maxHeartbeats 2000000 in
set_option maxRecDepth 100000 in
theorem ops_any1 (w : World) : Calls Tryz.prog 69 #[] w (OpsS w) := by
  obtain ⟨wa, hwa⟩ : ∃ wa, wa = w.alloc (.cells #[Value.nilFunc, Value.nilFunc, Value.nilFunc, Value.nilFunc, Value.nilFunc, Value.nilFunc, Value.nilFunc, Value.nilFunc, Value.nilFunc, Value.nilFunc] 93) := ⟨_, rfl⟩
  have hr : wa.heap[w.heap.size]? = some (.cells #[Value.nilFunc, Value.nilFunc, Value.nilFunc, Value.nilFunc, Value.nilFunc, Value.nilFunc, Value.nilFunc, Value.nilFunc, Value.nilFunc, Value.nilFunc] 93 (0, 0)) := by rw [hwa]; exact heap_alloc_new w _
  have hg : w.grownBy wa none := by rw [hwa]; exact gb_alloc (gb_refl w none) _
  have hs : wa.heap.size = w.heap.size + 1 := by rw [hwa]; simp
  have HR := hide hr
  have HG := hide hg
  have HS := hide hs
  have HG0 := hide (gb_refl wa none)
  have HWE := hide hwa
  clear hr hg hwa hs
  go_enter Tryz.func69, Tryz.ntmps69
  go_wp2_with fail
  rw [← HWE.out]
  go_wp2_with (first
    | (go_at_call 102; refine (strict_mk _ _).mono ?_; rintro e wn ⟨p, rfl, hc, hps, hg⟩; have HGN := hide (gb_trans HG0.out hg (.inl rfl)); clear HG0; have HG0 := hide HGN.out; clear HGN; have HC := hide hc; have HGS := hide hg; have HPS := hide hps; clear hc hps hg)
    | (go_at_call 108; refine (choose_mk _ _).mono ?_; rintro e wn ⟨p, rfl, hc, hps, hg⟩; have HGN := hide (gb_trans HG0.out hg (.inl rfl)); clear HG0; have HG0 := hide HGN.out; clear HGN; have HC := hide hc; have HGS := hide hg; have HPS := hide hps; clear hc hps hg)
    | (go_at_call 111; refine (compare_mk _ _).mono ?_; rintro e wn ⟨p, rfl, hc, hps, hg⟩; have HGN := hide (gb_trans HG0.out hg (.inl rfl)); clear HG0; have HG0 := hide HGN.out; clear HGN; have HC := hide hc; have HGS := hide hg; have HPS := hide hps; (try clear hst); have hr2 := (HG0.out.block _ (blk_lt HR.out) (by simp)).trans HR.out; have hst := ops_store hr2; clear hr2; clear hc hps hg))
  rename_i w1 p0 _ HG1 _ w2 p1 HC1 _ HP1 w3 p2 _ G3 _ w4 p3 _ G4 _ w5 p4 _ G5 _ w6 p5 _ G6 _ w7 p6 _ G7 _ w8 p7 _ G8 _ w9 p8 _ G9 _
  obtain ⟨p9, hp9⟩ : ∃ p9, p9 = p := ⟨_, rfl⟩
  subst hp9
  have hr2 := (HG0.out.block _ (blk_lt HR.out) (by simp)).trans HR.out
  have hb : (wn.setRow w.heap.size #[.func (.func 144) #[] #[.pointer (some ⟨p0, 0, none⟩)], .func (.func 144) #[] #[.pointer (some ⟨p1, 0, none⟩)], .func (.func 144) #[] #[.pointer (some ⟨p2, 0, none⟩)], .func (.func 144) #[] #[.pointer (some ⟨p3, 0, none⟩)], .func (.func 144) #[] #[.pointer (some ⟨p4, 0, none⟩)], .func (.func 153) #[] #[.pointer (some ⟨p5, 0, none⟩)], .func (.func 153) #[] #[.pointer (some ⟨p6, 0, none⟩)], .func (.func 154) #[] #[.pointer (some ⟨p7, 0, none⟩)], .func (.func 154) #[] #[.pointer (some ⟨p8, 0, none⟩)], .func (.func 154) #[] #[.pointer (some ⟨p9, 0, none⟩)]]).heap[w.heap.size]? = some (.cells #[.func (.func 144) #[] #[.pointer (some ⟨p0, 0, none⟩)], .func (.func 144) #[] #[.pointer (some ⟨p1, 0, none⟩)], .func (.func 144) #[] #[.pointer (some ⟨p2, 0, none⟩)], .func (.func 144) #[] #[.pointer (some ⟨p3, 0, none⟩)], .func (.func 144) #[] #[.pointer (some ⟨p4, 0, none⟩)], .func (.func 153) #[] #[.pointer (some ⟨p5, 0, none⟩)], .func (.func 153) #[] #[.pointer (some ⟨p6, 0, none⟩)], .func (.func 154) #[] #[.pointer (some ⟨p7, 0, none⟩)], .func (.func 154) #[] #[.pointer (some ⟨p8, 0, none⟩)], .func (.func 154) #[] #[.pointer (some ⟨p9, 0, none⟩)]] 93 (0, 0)) := by
    exact setRow_heap _ _ _ _ _ _ hr2
  have m0 : (wn.setRow w.heap.size #[.func (.func 144) #[] #[.pointer (some ⟨p0, 0, none⟩)], .func (.func 144) #[] #[.pointer (some ⟨p1, 0, none⟩)], .func (.func 144) #[] #[.pointer (some ⟨p2, 0, none⟩)], .func (.func 144) #[] #[.pointer (some ⟨p3, 0, none⟩)], .func (.func 144) #[] #[.pointer (some ⟨p4, 0, none⟩)], .func (.func 153) #[] #[.pointer (some ⟨p5, 0, none⟩)], .func (.func 153) #[] #[.pointer (some ⟨p6, 0, none⟩)], .func (.func 154) #[] #[.pointer (some ⟨p7, 0, none⟩)], .func (.func 154) #[] #[.pointer (some ⟨p8, 0, none⟩)], .func (.func 154) #[] #[.pointer (some ⟨p9, 0, none⟩)]]).cell? ⟨w.heap.size, 0, none⟩ = some (.func (.func 144) #[] #[.pointer (some ⟨p0, 0, none⟩)]) := by rw [blk_cell hb]; rfl
  have m1 : (wn.setRow w.heap.size #[.func (.func 144) #[] #[.pointer (some ⟨p0, 0, none⟩)], .func (.func 144) #[] #[.pointer (some ⟨p1, 0, none⟩)], .func (.func 144) #[] #[.pointer (some ⟨p2, 0, none⟩)], .func (.func 144) #[] #[.pointer (some ⟨p3, 0, none⟩)], .func (.func 144) #[] #[.pointer (some ⟨p4, 0, none⟩)], .func (.func 153) #[] #[.pointer (some ⟨p5, 0, none⟩)], .func (.func 153) #[] #[.pointer (some ⟨p6, 0, none⟩)], .func (.func 154) #[] #[.pointer (some ⟨p7, 0, none⟩)], .func (.func 154) #[] #[.pointer (some ⟨p8, 0, none⟩)], .func (.func 154) #[] #[.pointer (some ⟨p9, 0, none⟩)]]).cell? ⟨w.heap.size, 1, none⟩ = some (.func (.func 144) #[] #[.pointer (some ⟨p1, 0, none⟩)]) := by rw [blk_cell hb]; rfl
  have m2 : (wn.setRow w.heap.size #[.func (.func 144) #[] #[.pointer (some ⟨p0, 0, none⟩)], .func (.func 144) #[] #[.pointer (some ⟨p1, 0, none⟩)], .func (.func 144) #[] #[.pointer (some ⟨p2, 0, none⟩)], .func (.func 144) #[] #[.pointer (some ⟨p3, 0, none⟩)], .func (.func 144) #[] #[.pointer (some ⟨p4, 0, none⟩)], .func (.func 153) #[] #[.pointer (some ⟨p5, 0, none⟩)], .func (.func 153) #[] #[.pointer (some ⟨p6, 0, none⟩)], .func (.func 154) #[] #[.pointer (some ⟨p7, 0, none⟩)], .func (.func 154) #[] #[.pointer (some ⟨p8, 0, none⟩)], .func (.func 154) #[] #[.pointer (some ⟨p9, 0, none⟩)]]).cell? ⟨w.heap.size, 2, none⟩ = some (.func (.func 144) #[] #[.pointer (some ⟨p2, 0, none⟩)]) := by rw [blk_cell hb]; rfl
  have m3 : (wn.setRow w.heap.size #[.func (.func 144) #[] #[.pointer (some ⟨p0, 0, none⟩)], .func (.func 144) #[] #[.pointer (some ⟨p1, 0, none⟩)], .func (.func 144) #[] #[.pointer (some ⟨p2, 0, none⟩)], .func (.func 144) #[] #[.pointer (some ⟨p3, 0, none⟩)], .func (.func 144) #[] #[.pointer (some ⟨p4, 0, none⟩)], .func (.func 153) #[] #[.pointer (some ⟨p5, 0, none⟩)], .func (.func 153) #[] #[.pointer (some ⟨p6, 0, none⟩)], .func (.func 154) #[] #[.pointer (some ⟨p7, 0, none⟩)], .func (.func 154) #[] #[.pointer (some ⟨p8, 0, none⟩)], .func (.func 154) #[] #[.pointer (some ⟨p9, 0, none⟩)]]).cell? ⟨w.heap.size, 3, none⟩ = some (.func (.func 144) #[] #[.pointer (some ⟨p3, 0, none⟩)]) := by rw [blk_cell hb]; rfl
  have m4 : (wn.setRow w.heap.size #[.func (.func 144) #[] #[.pointer (some ⟨p0, 0, none⟩)], .func (.func 144) #[] #[.pointer (some ⟨p1, 0, none⟩)], .func (.func 144) #[] #[.pointer (some ⟨p2, 0, none⟩)], .func (.func 144) #[] #[.pointer (some ⟨p3, 0, none⟩)], .func (.func 144) #[] #[.pointer (some ⟨p4, 0, none⟩)], .func (.func 153) #[] #[.pointer (some ⟨p5, 0, none⟩)], .func (.func 153) #[] #[.pointer (some ⟨p6, 0, none⟩)], .func (.func 154) #[] #[.pointer (some ⟨p7, 0, none⟩)], .func (.func 154) #[] #[.pointer (some ⟨p8, 0, none⟩)], .func (.func 154) #[] #[.pointer (some ⟨p9, 0, none⟩)]]).cell? ⟨w.heap.size, 4, none⟩ = some (.func (.func 144) #[] #[.pointer (some ⟨p4, 0, none⟩)]) := by rw [blk_cell hb]; rfl
  have m5 : (wn.setRow w.heap.size #[.func (.func 144) #[] #[.pointer (some ⟨p0, 0, none⟩)], .func (.func 144) #[] #[.pointer (some ⟨p1, 0, none⟩)], .func (.func 144) #[] #[.pointer (some ⟨p2, 0, none⟩)], .func (.func 144) #[] #[.pointer (some ⟨p3, 0, none⟩)], .func (.func 144) #[] #[.pointer (some ⟨p4, 0, none⟩)], .func (.func 153) #[] #[.pointer (some ⟨p5, 0, none⟩)], .func (.func 153) #[] #[.pointer (some ⟨p6, 0, none⟩)], .func (.func 154) #[] #[.pointer (some ⟨p7, 0, none⟩)], .func (.func 154) #[] #[.pointer (some ⟨p8, 0, none⟩)], .func (.func 154) #[] #[.pointer (some ⟨p9, 0, none⟩)]]).cell? ⟨w.heap.size, 5, none⟩ = some (.func (.func 153) #[] #[.pointer (some ⟨p5, 0, none⟩)]) := by rw [blk_cell hb]; rfl
  have m6 : (wn.setRow w.heap.size #[.func (.func 144) #[] #[.pointer (some ⟨p0, 0, none⟩)], .func (.func 144) #[] #[.pointer (some ⟨p1, 0, none⟩)], .func (.func 144) #[] #[.pointer (some ⟨p2, 0, none⟩)], .func (.func 144) #[] #[.pointer (some ⟨p3, 0, none⟩)], .func (.func 144) #[] #[.pointer (some ⟨p4, 0, none⟩)], .func (.func 153) #[] #[.pointer (some ⟨p5, 0, none⟩)], .func (.func 153) #[] #[.pointer (some ⟨p6, 0, none⟩)], .func (.func 154) #[] #[.pointer (some ⟨p7, 0, none⟩)], .func (.func 154) #[] #[.pointer (some ⟨p8, 0, none⟩)], .func (.func 154) #[] #[.pointer (some ⟨p9, 0, none⟩)]]).cell? ⟨w.heap.size, 6, none⟩ = some (.func (.func 153) #[] #[.pointer (some ⟨p6, 0, none⟩)]) := by rw [blk_cell hb]; rfl
  have m7 : (wn.setRow w.heap.size #[.func (.func 144) #[] #[.pointer (some ⟨p0, 0, none⟩)], .func (.func 144) #[] #[.pointer (some ⟨p1, 0, none⟩)], .func (.func 144) #[] #[.pointer (some ⟨p2, 0, none⟩)], .func (.func 144) #[] #[.pointer (some ⟨p3, 0, none⟩)], .func (.func 144) #[] #[.pointer (some ⟨p4, 0, none⟩)], .func (.func 153) #[] #[.pointer (some ⟨p5, 0, none⟩)], .func (.func 153) #[] #[.pointer (some ⟨p6, 0, none⟩)], .func (.func 154) #[] #[.pointer (some ⟨p7, 0, none⟩)], .func (.func 154) #[] #[.pointer (some ⟨p8, 0, none⟩)], .func (.func 154) #[] #[.pointer (some ⟨p9, 0, none⟩)]]).cell? ⟨w.heap.size, 7, none⟩ = some (.func (.func 154) #[] #[.pointer (some ⟨p7, 0, none⟩)]) := by rw [blk_cell hb]; rfl
  have m8 : (wn.setRow w.heap.size #[.func (.func 144) #[] #[.pointer (some ⟨p0, 0, none⟩)], .func (.func 144) #[] #[.pointer (some ⟨p1, 0, none⟩)], .func (.func 144) #[] #[.pointer (some ⟨p2, 0, none⟩)], .func (.func 144) #[] #[.pointer (some ⟨p3, 0, none⟩)], .func (.func 144) #[] #[.pointer (some ⟨p4, 0, none⟩)], .func (.func 153) #[] #[.pointer (some ⟨p5, 0, none⟩)], .func (.func 153) #[] #[.pointer (some ⟨p6, 0, none⟩)], .func (.func 154) #[] #[.pointer (some ⟨p7, 0, none⟩)], .func (.func 154) #[] #[.pointer (some ⟨p8, 0, none⟩)], .func (.func 154) #[] #[.pointer (some ⟨p9, 0, none⟩)]]).cell? ⟨w.heap.size, 8, none⟩ = some (.func (.func 154) #[] #[.pointer (some ⟨p8, 0, none⟩)]) := by rw [blk_cell hb]; rfl
  have m9 : (wn.setRow w.heap.size #[.func (.func 144) #[] #[.pointer (some ⟨p0, 0, none⟩)], .func (.func 144) #[] #[.pointer (some ⟨p1, 0, none⟩)], .func (.func 144) #[] #[.pointer (some ⟨p2, 0, none⟩)], .func (.func 144) #[] #[.pointer (some ⟨p3, 0, none⟩)], .func (.func 144) #[] #[.pointer (some ⟨p4, 0, none⟩)], .func (.func 153) #[] #[.pointer (some ⟨p5, 0, none⟩)], .func (.func 153) #[] #[.pointer (some ⟨p6, 0, none⟩)], .func (.func 154) #[] #[.pointer (some ⟨p7, 0, none⟩)], .func (.func 154) #[] #[.pointer (some ⟨p8, 0, none⟩)], .func (.func 154) #[] #[.pointer (some ⟨p9, 0, none⟩)]]).cell? ⟨w.heap.size, 9, none⟩ = some (.func (.func 154) #[] #[.pointer (some ⟨p9, 0, none⟩)]) := by rw [blk_cell hb]; rfl
  refine bodyPost_ret (v := .agg #[.func (.func 144) #[] #[.pointer (some ⟨p0, 0, none⟩)], .func (.func 144) #[] #[.pointer (some ⟨p1, 0, none⟩)], .func (.func 144) #[] #[.pointer (some ⟨p2, 0, none⟩)], .func (.func 144) #[] #[.pointer (some ⟨p3, 0, none⟩)], .func (.func 144) #[] #[.pointer (some ⟨p4, 0, none⟩)], .func (.func 153) #[] #[.pointer (some ⟨p5, 0, none⟩)], .func (.func 153) #[] #[.pointer (some ⟨p6, 0, none⟩)], .func (.func 154) #[] #[.pointer (some ⟨p7, 0, none⟩)], .func (.func 154) #[] #[.pointer (some ⟨p8, 0, none⟩)], .func (.func 154) #[] #[.pointer (some ⟨p9, 0, none⟩)]]) (by simp [results, Tryz.results69, go_sem, m0, m1, m2, m3, m4, m5, m6, m7, m8, m9]) rfl ?_
  have hs := HS.out
  have l0 := HG1.out.size
  have q1 : w.heap.size < p1 := by have := HP1.out; omega
  have g9 := HGS.out
  have e9 := gb_trans G9.out g9 (.inl rfl)
  have e8 := gb_trans G8.out e9 (.inl rfl)
  have e7 := gb_trans G7.out e8 (.inl rfl)
  have e6 := gb_trans G6.out e7 (.inl rfl)
  have e5 := gb_trans G5.out e6 (.inl rfl)
  have e4 := gb_trans G4.out e5 (.inl rfl)
  have e3 := gb_trans G3.out e4 (.inl rfl)
  have kk : ∀ p, w.heap.size < p → (wn.setRow w.heap.size #[.func (.func 144) #[] #[.pointer (some ⟨p0, 0, none⟩)], .func (.func 144) #[] #[.pointer (some ⟨p1, 0, none⟩)], .func (.func 144) #[] #[.pointer (some ⟨p2, 0, none⟩)], .func (.func 144) #[] #[.pointer (some ⟨p3, 0, none⟩)], .func (.func 144) #[] #[.pointer (some ⟨p4, 0, none⟩)], .func (.func 153) #[] #[.pointer (some ⟨p5, 0, none⟩)], .func (.func 153) #[] #[.pointer (some ⟨p6, 0, none⟩)], .func (.func 154) #[] #[.pointer (some ⟨p7, 0, none⟩)], .func (.func 154) #[] #[.pointer (some ⟨p8, 0, none⟩)], .func (.func 154) #[] #[.pointer (some ⟨p9, 0, none⟩)]]).heap[p]? = wn.heap[p]? := fun p hp => heap_setRow _ _ _ _ (Nat.ne_of_gt hp)
  exact ⟨p0, p1, p2, p3, p4, p5, p6, p7, p8, p9, rfl, (World.cell?_of_block (kk _ q1)).trans (cell_gb HC1.out e3), (gb_setRow (gb_trans HG.out HG0.out (.inl rfl)) _ _ (Nat.le_refl _))⟩
end
theorem opC_subtract {w : World} {p : Nat} (h : w.cell? ⟨p, 0, none⟩ = some (.func (.func 104) #[] #[])) : OpC w p (strictF difF) := fun w2 hg => strict_subtract p w2 (cell_gb h hg)
section
attribute [-go_sem] Go.storeCells
set_option maxHeartbeats 4000000 in
set_option maxRecDepth 100000 in
theorem do_subtract (x y : Vl) (w : World) (B : Nat) (nA : Option Addr) (nc : Nat) (sA : Option Addr) (sc : Nat) (lA : Option Addr) (lc : Nat) (mA : Option Addr) (mc : Nat) (tA : Option Addr) (tc : Nat) (kA : Option Addr) (kc : Nat)
    (hx : IntV x) (hy : IntV y) (hB : B ≤ w.heap.size) (vx : VB w B x nA nc sA sc lA lc) (vy : VB w B y mA mc tA tc kA kc) :
    Calls Tryz.prog 40 #[.int .i64 1, .agg #[.int .i64 x.t, .slice nA x.n.length nc, .slice sA x.s.length sc, .slice lA x.l.length lc], .agg #[.int .i64 y.t, .slice mA y.n.length mc, .slice tA y.s.length tc, .slice kA y.l.length kc]] w (DoR (doI (strictF difF) x y) w) := by
  obtain ⟨wa, hwa⟩ : ∃ wa, wa = ((w.alloc (.cells #[.int .i64 x.t, .slice nA x.n.length nc, .slice sA x.s.length sc, .slice lA x.l.length lc] 26)).alloc (.cells #[.int .i64 y.t, .slice mA y.n.length mc, .slice tA y.s.length tc, .slice kA y.l.length kc] 26)).alloc (.cells #[.int .i64 0, .slice none 0 0, .slice none 0 0, .slice none 0 0] 26) := ⟨_, rfl⟩
  have bx : wa.heap[w.heap.size]? = some (.cells #[.int .i64 x.t, .slice nA x.n.length nc, .slice sA x.s.length sc, .slice lA x.l.length lc] 26 (0, 0)) := by rw [hwa]; exact (Below.heap_alloc _ _ _ (by rw [World.size_alloc, World.size_alloc]; omega)).trans ((Below.heap_alloc _ _ _ (by rw [World.size_alloc]; omega)).trans (heap_alloc_new w _))
  have by_ : wa.heap[w.heap.size + 1]? = some (.cells #[.int .i64 y.t, .slice mA y.n.length mc, .slice tA y.s.length tc, .slice kA y.l.length kc] 26 (0, 0)) := by rw [hwa]; exact (Below.heap_alloc _ _ _ (by rw [World.size_alloc, World.size_alloc]; omega)).trans (by have := heap_alloc_new (w.alloc (.cells #[.int .i64 x.t, .slice nA x.n.length nc, .slice sA x.s.length sc, .slice lA x.l.length lc] 26)) (.cells #[.int .i64 y.t, .slice mA y.n.length mc, .slice tA y.s.length tc, .slice kA y.l.length kc] 26); rwa [World.size_alloc] at this)
  have bz : wa.heap[w.heap.size + 2]? = some (.cells #[.int .i64 0, .slice none 0 0, .slice none 0 0, .slice none 0 0] 26 (0, 0)) := by rw [hwa]; have := heap_alloc_new ((w.alloc (.cells #[.int .i64 x.t, .slice nA x.n.length nc, .slice sA x.s.length sc, .slice lA x.l.length lc] 26)).alloc (.cells #[.int .i64 y.t, .slice mA y.n.length mc, .slice tA y.s.length tc, .slice kA y.l.length kc] 26)) (.cells #[.int .i64 0, .slice none 0 0, .slice none 0 0, .slice none 0 0] 26); rwa [World.size_alloc, World.size_alloc] at this
  have HBX := hide bx
  have HBY := hide by_
  have HBZ := hide bz
  have HGA := hide (show w.grownBy wa none by rw [hwa]; exact gb_alloc (gb_alloc (gb_alloc (gb_refl w none) _) _) _)
  have HWE := hide hwa
  have HKX := hide (kindO_int hx)
  have HKY := hide (kindO_int hy)
  have HDO := hide (fun (g k : Nat) (w2 : World) (hg : w.grownBy w2 none) (hS : StrF k w2 g (strictF difF)) => do_ints (strictF difF) g k x y w2 B nA nc sA sc lA lc mA mc tA tc kA kc hx hy (Nat.le_trans hB hg.size) (vx.gb hg hB) (vy.gb hg hB) hS)
  clear bx by_ bz hwa hx hy hB vx vy
  go_enter Tryz.func40, Tryz.ntmps40
  go_wp2_with fail
  rw [← HWE.out]
  go_wp2_with (go_at_call 69; refine (ops_any1 _).mono ?_; rintro e wb ⟨p0, p1, p2, p3, p4, p5, p6, p7, p8, p9, rfl, hc1, hgb⟩; have HC1 := hide hc1; have HGB := hide (gb_trans HGA.out hgb (.inl rfl)); have HG1 := hide hgb; have hst := ops_store (heap_alloc_new wb (.cells #[Value.nilFunc, Value.nilFunc, Value.nilFunc, Value.nilFunc, Value.nilFunc, Value.nilFunc, Value.nilFunc, Value.nilFunc, Value.nilFunc, Value.nilFunc] 93)) p0 p1 p2 p3 p4 p5 p6 p7 p8 p9; rw [World.setRow_alloc_new] at hst; clear hc1 hgb)
  clear hst
  obtain ⟨wc, hwc⟩ : ∃ wc, wc = wb.alloc (.cells #[.func (.func 144) #[] #[.pointer (some ⟨p0, 0, none⟩)], .func (.func 144) #[] #[.pointer (some ⟨p1, 0, none⟩)], .func (.func 144) #[] #[.pointer (some ⟨p2, 0, none⟩)], .func (.func 144) #[] #[.pointer (some ⟨p3, 0, none⟩)], .func (.func 144) #[] #[.pointer (some ⟨p4, 0, none⟩)], .func (.func 153) #[] #[.pointer (some ⟨p5, 0, none⟩)], .func (.func 153) #[] #[.pointer (some ⟨p6, 0, none⟩)], .func (.func 154) #[] #[.pointer (some ⟨p7, 0, none⟩)], .func (.func 154) #[] #[.pointer (some ⟨p8, 0, none⟩)], .func (.func 154) #[] #[.pointer (some ⟨p9, 0, none⟩)]] 93) := ⟨_, rfl⟩
  rw [← hwc]
  have hgc : wb.grownBy wc none := by rw [hwc]; exact gb_alloc (gb_refl wb none) _
  have HB8 := hide (show wc.heap[wb.heap.size]? = some (.cells #[.func (.func 144) #[] #[.pointer (some ⟨p0, 0, none⟩)], .func (.func 144) #[] #[.pointer (some ⟨p1, 0, none⟩)], .func (.func 144) #[] #[.pointer (some ⟨p2, 0, none⟩)], .func (.func 144) #[] #[.pointer (some ⟨p3, 0, none⟩)], .func (.func 144) #[] #[.pointer (some ⟨p4, 0, none⟩)], .func (.func 153) #[] #[.pointer (some ⟨p5, 0, none⟩)], .func (.func 153) #[] #[.pointer (some ⟨p6, 0, none⟩)], .func (.func 154) #[] #[.pointer (some ⟨p7, 0, none⟩)], .func (.func 154) #[] #[.pointer (some ⟨p8, 0, none⟩)], .func (.func 154) #[] #[.pointer (some ⟨p9, 0, none⟩)]] 93 (0, 0)) by rw [hwc]; exact heap_alloc_new wb _)
  have HG := hide (gb_trans HGB.out hgc (.inl rfl))
  have HGC := hide (gb_trans HG1.out hgc (.inl rfl))
  have H1 : Hid (OpC wc p1 (strictF difF)) := hide (opC_subtract (cell_gb HC1.out hgc))
  have HCX := hide (show C4 wc w.heap.size 0 (.int .i64 x.t) (.slice nA x.n.length nc) (.slice sA x.s.length sc) (.slice lA x.l.length lc) by have h := blk_keep HBX.out HGC.out (by simp); exact ⟨by rw [blk_cell h]; rfl, by rw [blk_cell h]; rfl, by rw [blk_cell h]; rfl, by rw [blk_cell h]; rfl⟩)
  have HCY := hide (show C4 wc (w.heap.size + 1) 0 (.int .i64 y.t) (.slice mA y.n.length mc) (.slice tA y.s.length tc) (.slice kA y.l.length kc) by have h := blk_keep HBY.out HGC.out (by simp); exact ⟨by rw [blk_cell h]; rfl, by rw [blk_cell h]; rfl, by rw [blk_cell h]; rfl, by rw [blk_cell h]; rfl⟩)
  obtain ⟨b8, hb8⟩ : ∃ b8, b8 = wb.heap.size := ⟨_, rfl⟩
  rw [← hb8] at HB8 ⊢
  clear hgc hwc hb8 HC1 HGA HGB HG1 HWE
  refine wp_region_kfacts (grK wc.heap.size ZR) 14 9 (by kernel_rfl) (by kernel_rfl) (by kernel_rfl) ?_
  intro A O W L HA HO HW HL
  simp only [List.take_succ_cons, List.take_zero]
  have HS := hide (show A.tmps.size = 40 by rw [HA.out]; rfl)
  have HGW := hide (show wc.grownBy W none by rw [HW.out]; exact gb_drew (gb_refl wc none))
  have HSW := hide (show W.heap.size ≤ wc.heap.size by rw [HW.out]; exact Nat.le_refl _)
  have A0 := hide (show A.eval (.tmp 0) = .int .i64 1 by rw [HA.out]; rfl)
  have A4 := hide (show A.eval (.tmp 4) = .pointer (some ⟨w.heap.size, 0, none⟩) by rw [HA.out]; rfl)
  have A5 := hide (show A.eval (.tmp 5) = .pointer (some ⟨w.heap.size + 1, 0, none⟩) by rw [HA.out]; rfl)
  have A8 := hide (show A.eval (.tmp 8) = .pointer (some ⟨b8, 0, none⟩) by rw [HA.out]; rfl)
  -- slot 20
  refine kFacts_lit (.int .i64 1) rfl rfl ?_ ?_
  · intro a wq hw hl
    have e0 : a.tmps[0]?.getD undef = .int .i64 1 := (hl 0 (by first | (simp [Op.operands]; done) | simp [Op.operands, Call.operands]) (by rw [HS.out]; decide)).trans A0.out
    clear hl
    go_simp
  -- slot 21
  refine kFacts_lit (.pointer (some ⟨b8, 1, none⟩)) rfl rfl ?_ ?_
  · intro a wq hw hl
    have e8 : a.tmps[8]?.getD undef = .pointer (some ⟨b8, 0, none⟩) := (hl 8 (by first | (simp [Op.operands]; done) | simp [Op.operands, Call.operands]) (by rw [HS.out]; decide)).trans A8.out
    have e20 : a.tmps[20]?.getD undef = .int .i64 1 := hl 20 (by first | (simp [Op.operands]; done) | simp [Op.operands, Call.operands]) (by rw [HS.out]; decide)
    clear hl
    go_simp
  -- slot 22
  refine kFacts_lit (.func (.func 144) #[] #[.pointer (some ⟨p1, 0, none⟩)]) rfl rfl ?_ ?_
  · intro a wq hw hl
    have e21 : a.tmps[21]?.getD undef = .pointer (some ⟨b8, 1, none⟩) := hl 21 (by first | (simp [Op.operands]; done) | simp [Op.operands, Call.operands]) (by rw [HS.out]; decide)
    have hk := blk_keep HB8.out (gb_trans HGW.out (Keeps.grown hw HSW.out) (.inl rfl)) (by simp)
    have ck : wq.cell? ⟨b8, 1, none⟩ = some (.func (.func 144) #[] #[.pointer (some ⟨p1, 0, none⟩)]) := by rw [blk_cell hk]; rfl
    clear hk
    clear hl
    go_simp
  -- slot 23
  refine kFacts_lit (.agg #[.int .i64 x.t, .slice nA x.n.length nc, .slice sA x.s.length sc, .slice lA x.l.length lc]) rfl rfl ?_ ?_
  · intro a wq hw hl
    have e4 : a.tmps[4]?.getD undef = .pointer (some ⟨w.heap.size, 0, none⟩) := (hl 4 (by first | (simp [Op.operands]; done) | simp [Op.operands, Call.operands]) (by rw [HS.out]; decide)).trans A4.out
    obtain ⟨c0, c1, c2, c3⟩ := HCX.out.gb (gb_trans HGW.out (Keeps.grown hw HSW.out) (.inl rfl))
    clear hl
    go_simp
  -- slot 24
  refine kFacts_step (fun vq _ => vq = .int .i64 2) rfl rfl (Lasts.lit _) ?_ ?_
  · intro a wq hw hl
    have e23 : a.tmps[23]?.getD undef = .agg #[.int .i64 x.t, .slice nA x.n.length nc, .slice sA x.s.length sc, .slice lA x.l.length lc] := hl 23 (by first | (simp [Op.operands]; done) | simp [Op.operands, Call.operands]) (by rw [HS.out]; decide)
    clear hl
    go_simp
    exact gUpon_lit ((kind_any _ _ _ _ _ _ _ _ _).mono fun _ _ h => ⟨h.1.trans (by rw [HKX.out]), h.2⟩)
  -- slot 25
  refine kFacts_lit (.agg #[.int .i64 y.t, .slice mA y.n.length mc, .slice tA y.s.length tc, .slice kA y.l.length kc]) rfl rfl ?_ ?_
  · intro a wq hw hl
    have e5 : a.tmps[5]?.getD undef = .pointer (some ⟨w.heap.size + 1, 0, none⟩) := (hl 5 (by first | (simp [Op.operands]; done) | simp [Op.operands, Call.operands]) (by rw [HS.out]; decide)).trans A5.out
    obtain ⟨c0, c1, c2, c3⟩ := HCY.out.gb (gb_trans HGW.out (Keeps.grown hw HSW.out) (.inl rfl))
    clear hl
    go_simp
  -- slot 26
  refine kFacts_step (fun vq _ => vq = .int .i64 2) rfl rfl (Lasts.lit _) ?_ ?_
  · intro a wq hw hl
    have e25 : a.tmps[25]?.getD undef = .agg #[.int .i64 y.t, .slice mA y.n.length mc, .slice tA y.s.length tc, .slice kA y.l.length kc] := hl 25 (by first | (simp [Op.operands]; done) | simp [Op.operands, Call.operands]) (by rw [HS.out]; decide)
    clear hl
    go_simp
    exact gUpon_lit ((kind_any _ _ _ _ _ _ _ _ _).mono fun _ _ h => ⟨h.1.trans (by rw [HKY.out]), h.2⟩)
  -- slot 27
  refine kFacts_lit (.agg #[.int .i64 2, .int .i64 2]) rfl rfl ?_ ?_
  · intro a wq hw hl
    have e24 : a.tmps[24]?.getD undef = .int .i64 2 := hl 24 (by first | (simp [Op.operands]; done) | simp [Op.operands, Call.operands]) (by rw [HS.out]; decide)
    have e26 : a.tmps[26]?.getD undef = .int .i64 2 := hl 26 (by first | (simp [Op.operands]; done) | simp [Op.operands, Call.operands]) (by rw [HS.out]; decide)
    clear hl
    go_simp
  -- slot 28
  refine kFacts_step (RuleK (strictF difF)) rfl rfl (RuleK.lasts (strictF difF)) ?_ ?_
  · intro a wq hw hl
    have e22 : a.tmps[22]?.getD undef = .func (.func 144) #[] #[.pointer (some ⟨p1, 0, none⟩)] := hl 22 (by first | (simp [Op.operands]; done) | simp [Op.operands, Call.operands]) (by rw [HS.out]; decide)
    have e27 : a.tmps[27]?.getD undef = .agg #[.int .i64 2, .int .i64 2] := hl 27 (by first | (simp [Op.operands]; done) | simp [Op.operands, Call.operands]) (by rw [HS.out]; decide)
    clear hl
    go_simp
    exact ⟨gb_refl _ none, (ruleOf_ints p1 _ (H1.out.gb (gb_trans HGW.out (Keeps.grown hw HSW.out) (.inl rfl)))).mono fun _ _ ⟨g, h1, h2, h3⟩ => ⟨_, h1, h3, g, _, rfl, h2⟩⟩
  -- slot 19
  refine kFacts_step (RuleK (strictF difF)) rfl rfl (RuleK.lasts (strictF difF)) ?_ ?_
  · intro a wq hw hl
    have h28 : (RuleK (strictF difF)) (a.tmps[28]?.getD undef) wq := hl 28 (by first | (simp [Op.operands]; done) | simp [Op.operands, Call.operands]) (by rw [HS.out]; decide)
    obtain ⟨g, k, e28, hS⟩ := h28
    clear hl
    go_simp
    exact ⟨gb_refl _ none, g, k, rfl, hS⟩
  -- slot 29
  refine kFacts_step (RuleG (strictF difF)) rfl rfl (RuleG.lasts (strictF difF)) ?_ ?_
  · intro a wq hw hl
    have h19 : (RuleK (strictF difF)) (a.tmps[19]?.getD undef) wq := hl 19 (by first | (simp [Op.operands]; done) | simp [Op.operands, Call.operands]) (by rw [HS.out]; decide)
    obtain ⟨g, k, e19, hS⟩ := h19
    clear hl
    go_simp
    exact ⟨gb_refl _ none, g, k, rfl, hS⟩
  -- slot 30
  refine kFacts_lit (.bool true) rfl rfl ?_ ?_
  · intro a wq hw hl
    have h19 : (RuleK (strictF difF)) (a.tmps[19]?.getD undef) wq := hl 19 (by first | (simp [Op.operands]; done) | simp [Op.operands, Call.operands]) (by rw [HS.out]; decide)
    obtain ⟨g, k, e19, _⟩ := h19
    clear hl
    go_simp
  -- slot 9
  refine kFacts_step (BoxF wc.heap.size #[.int .i64 0, Value.nilFunc, Value.nilFunc] 99) rfl rfl (BoxF.lasts9 _ _ _) ?_ ?_
  · intro a wq hw hl
    clear hl
    go_simp
    exact BoxF.new _ _ (Nat.le_trans HGW.out.size hw.size)
  -- slot 99
  refine kFacts_store (RuleB wc.heap.size (strictF difF)) rfl rfl (RuleB.up _ _) ?_ ?_
  · intro a wq hw hl
    have h9 : (BoxF wc.heap.size #[.int .i64 0, Value.nilFunc, Value.nilFunc] 99) (a.tmps[9]?.getD undef) wq := hl 9 (by first | (simp [Op.operands]; done) | simp [Op.operands, Call.operands]) (by rw [HS.out]; decide)
    obtain ⟨b, e9, hb9, hbs⟩ := h9
    have h29 : (RuleG (strictF difF)) (a.tmps[29]?.getD undef) wq := hl 29 (by first | (simp [Op.operands]; done) | simp [Op.operands, Call.operands]) (by rw [HS.out]; decide)
    obtain ⟨g, k, e29, hS⟩ := h29
    have hst := storeCells_row (P := Tryz.prog) (c' := #[.int .i64 2, .func (.func 145) #[] #[.pointer (some ⟨g, 0, none⟩)], Value.nilFunc]) hb9 info3 rfl (by simp [Value.oneCell'])
    have hkp := Keeps.setRow (s := wc.heap.size) (Z := ZR) #[.int .i64 2, .func (.func 145) #[] #[.pointer (some ⟨g, 0, none⟩)], Value.nilFunc] hb9 hbs ⟨0, _, _, rfl, by decide⟩ ⟨2, _, _, rfl, by decide⟩
    have hrow := heap_setRow_at _ _ _ #[.int .i64 2, .func (.func 145) #[] #[.pointer (some ⟨g, 0, none⟩)], Value.nilFunc] _ _ hb9
    clear hl
    go_simp
    exact ⟨hkp, b, g, k, rfl, hbs, hrow, hS.keeps hkp⟩
  refine HL.out _ (fun a' w5 hc => ?_)
  have h9 : (RuleB wc.heap.size (strictF difF)) (a'.eval (.tmp 9)) w5 := hc.fact 9 (by rw [HS.out]; decide)
  obtain ⟨b, g, k, e9, hbs, hb9, hS⟩ := h9
  have e30 : a'.eval (.tmp 30) = .bool true := hc.fact 30 (by rw [HS.out]; decide)
  have hgw5 := gb_trans HGW.out (Keeps.grown hc.grown HSW.out) (.inl rfl)
  have hfr := hc.frame [20, 21, 22, 23, 24, 25, 26, 27, 28, 19, 29, 30, 9, 10] (by rw [HO.out]; kernel_rfl)
  rw [hfr]
  clear hfr hc
  rw [HA.out]
  clear HA HO HL HW HS HGW HSW A0 A4 A5 A8
  clear A O W L
  simp only [List.drop_succ_cons, List.drop_zero, List.foldl_cons, List.foldl_nil, Act.put, List.setIfInBounds_toArray, List.set_cons_succ, List.set_cons_zero]
  rw [e9, e30]
  generalize a'.eval (.tmp 20) = x20
  generalize a'.eval (.tmp 21) = x21
  generalize a'.eval (.tmp 22) = x22
  generalize a'.eval (.tmp 23) = x23
  generalize a'.eval (.tmp 24) = x24
  generalize a'.eval (.tmp 25) = x25
  generalize a'.eval (.tmp 26) = x26
  generalize a'.eval (.tmp 27) = x27
  generalize a'.eval (.tmp 28) = x28
  generalize a'.eval (.tmp 19) = x19
  generalize a'.eval (.tmp 29) = x29
  generalize a'.eval (.tmp 10) = x10
  clear e9 e30
  clear a'
  have HG5 := hide (gb_trans HG.out hgw5 (.inl rfl))
  have HDC := hide (HDO.out g k w5 HG5.out hS)
  have hx5 := HCX.out.gb hgw5
  have hy5 := HCY.out.gb hgw5
  have HBZ5 := hide (blk_keep HBZ.out (gb_trans HGC.out hgw5 (.inl rfl)) (by simp))
  have r0 : w5.cell? ⟨b, 0, none⟩ = some (.int .i64 2) := by rw [blk_cell hb9]; rfl
  have r1 : w5.cell? ⟨b, 1, none⟩ = some (.func (.func 145) #[] #[.pointer (some ⟨g, 0, none⟩)]) := by rw [blk_cell hb9]; rfl
  have r2 : w5.cell? ⟨b, 2, none⟩ = some Value.nilFunc := by rw [blk_cell hb9]; rfl
  obtain ⟨x0, x1, x2, x3⟩ := hx5
  obtain ⟨y0, y1, y2, y3⟩ := hy5
  clear hS hgw5 hbs hb9 HDO H1 HB8 HKX HKY HBX HBY HBZ HCX HCY HGC HG
  cases hdo : doI (strictF difF) x y with
  | error ek =>
    rw [hdo] at HDC
    go_wp2_with (go_at_call 72; refine HDC.out.mono ?_; rintro e wn ⟨hgn, rfl⟩; have HGN := hide (gb_trans HG5.out hgn (.inl rfl)); have hbz := blk_keep HBZ5.out hgn (by simp); have HZ := hide hbz; have hst := storeCells_row (P := Tryz.prog) (c' := #[.int .i64 0, .slice none 0 0, .slice none 0 0, .slice none 0 0]) hbz info4 rfl (by simp [Value.oneCell']); clear hgn hbz)
    have hrow := heap_setRow_at _ _ _ #[.int .i64 0, .slice none 0 0, .slice none 0 0, .slice none 0 0] _ _ HZ.out
    have m0 := blk_cell hrow 0
    have m1 := blk_cell hrow 1
    have m2 := blk_cell hrow 2
    have m3 := blk_cell hrow 3
    simp only [List.getElem?_toArray, List.getElem?_cons_zero, List.getElem?_cons_succ] at m0 m1 m2 m3
    exact bodyPost_ret (v := .tuple #[.agg #[.int .i64 0, .slice none 0 0, .slice none 0 0, .slice none 0 0], .int .i64 ek]) (by simp [results, Tryz.results40, go_sem, m0, m1, m2, m3]) rfl ⟨gb_setRow HGN.out _ _ (by omega), by rw [hdo]⟩
  | ok tl =>
    obtain ⟨t, l⟩ := tl
    rw [hdo] at HDC
    go_wp2_with (go_at_call 72; refine HDC.out.mono ?_; rintro e wn ⟨hgn, A, c, hlc, rfl, ho⟩; have HGN := hide (gb_trans HG5.out hgn (.inl rfl)); have hbz := blk_keep HBZ5.out hgn (by simp); have HZ := hide hbz; have HO := hide ho; have HLC := hide hlc; have hst := storeCells_row (P := Tryz.prog) (c' := #[.int .i64 t, .slice A l.length c, .slice none 0 0, .slice none 0 0]) hbz info4 rfl (by simp [Value.oneCell']); clear hgn hbz ho hlc)
    have hrow := heap_setRow_at _ _ _ #[.int .i64 t, .slice A l.length c, .slice none 0 0, .slice none 0 0] _ _ HZ.out
    have m0 := blk_cell hrow 0
    have m1 := blk_cell hrow 1
    have m2 := blk_cell hrow 2
    have m3 := blk_cell hrow 3
    simp only [List.getElem?_toArray, List.getElem?_cons_zero, List.getElem?_cons_succ] at m0 m1 m2 m3
    have hon := own_low (HO.out.kept (gb_setRow_own wn (w.heap.size + 2) #[.int .i64 t, .slice A l.length c, .slice none 0 0, .slice none 0 0]) (.inr (own_ne HO.out HZ.out (by decide)))) HG5.out.size
    exact bodyPost_ret (v := .tuple #[.agg #[.int .i64 t, .slice A l.length c, .slice none 0 0, .slice none 0 0], .int .i64 0]) (by simp [results, Tryz.results40, go_sem, m0, m1, m2, m3]) rfl ⟨gb_setRow HGN.out _ _ (by omega), by rw [hdo]; exact ⟨A, c, HLC.out, rfl, hon⟩⟩
end
end Go.Proofs.YtgepejnooghjbaaGreat

namespace Go.Proofs.YtgepejnooghjbaaGreat
open Go.RowKit

theorem bestN_best (dn : Bool) (l : List Int) (k : Nat) :
    (bestN dn l k < 0 → ∀ i, i < k → l.getD i 0 = -9223372036854775808) ∧
    (0 ≤ bestN dn l k → l.getD (bestN dn l k).toNat 0 ≠ -9223372036854775808 ∧ ∀ i, i < k → l.getD i 0 ≠ -9223372036854775808 → ¬ ahead dn (l.getD i 0) (l.getD (bestN dn l k).toNat 0)) := by
  induction k with
  | zero => exact ⟨fun _ i h => absurd h (Nat.not_lt_zero i), fun h => absurd (show (0 : Int) ≤ -1 from h) (by decide)⟩
  | succ k ih =>
    have e : bestN dn l (k + 1) = if l.getD k 0 ≠ -9223372036854775808 ∧ (bestN dn l k < 0 ∨ ahead dn (l.getD k 0) (l.getD (bestN dn l k).toNat 0)) then (k : Int) else bestN dn l k := rfl
    rw [e]
    generalize bestN dn l k = b at ih ⊢
    by_cases hc : l.getD k 0 ≠ -9223372036854775808 ∧ (b < 0 ∨ ahead dn (l.getD k 0) (l.getD b.toNat 0))
    · rw [if_pos hc]
      refine ⟨fun h => absurd h (by omega), fun _ => ⟨by rw [Int.toNat_natCast]; exact hc.1, fun i hi hn => ?_⟩⟩
      rw [Int.toNat_natCast]
      rcases Nat.lt_succ_iff_lt_or_eq.1 hi with hlt | rfl
      · rcases hc.2 with hb | ha
        · exact absurd (ih.1 hb i hlt) hn
        · have h0 := (ih.2 (by
            apply Int.not_lt.1
            intro hb
            exact hn (ih.1 hb i hlt))).2 i hlt hn
          intro h1
          cases dn
          · simp only [ahead, Bool.false_eq_true, if_false] at *
            omega
          · simp only [ahead, if_true] at *
            omega
      · intro h1
        cases dn
        · simp only [ahead, Bool.false_eq_true, if_false] at h1
          omega
        · simp only [ahead, if_true] at h1
          omega
    · rw [if_neg hc]
      refine ⟨fun hb i hi => ?_, fun hb => ⟨(ih.2 hb).1, fun i hi hn => ?_⟩⟩
      · rcases Nat.lt_succ_iff_lt_or_eq.1 hi with hlt | rfl
        · exact ih.1 hb i hlt
        · exact Classical.byContradiction fun hn => hc ⟨hn, .inl hb⟩
      · rcases Nat.lt_succ_iff_lt_or_eq.1 hi with hlt | rfl
        · exact (ih.2 hb).2 i hlt hn
        · exact fun h1 => hc ⟨hn, .inr h1⟩
theorem nnI_pos {l : List Int} (h : 0 < nnI l) : ∃ x ∈ l, x ≠ -9223372036854775808 := by
  obtain ⟨x, hx, h1⟩ := List.countP_pos_iff.1 h
  exact ⟨x, hx, by simpa using h1⟩
theorem getD_lt {l : List Int} {i : Nat} (h : i < l.length) : l.getD i 0 = l[i] := by
  rw [List.getD_eq_getElem?_getD, List.getElem?_eq_getElem h]
  rfl
/-- The best one is an element, and no other is ahead of it. -/
theorem best_is (dn : Bool) (l : List Int) (h : 0 < nnI l) : pickI l (-9223372036854775808) (bestN dn l l.length) ∈ l ∧ pickI l (-9223372036854775808) (bestN dn l l.length) ≠ -9223372036854775808 ∧
    ∀ x ∈ l, x ≠ -9223372036854775808 → ¬ ahead dn x (pickI l (-9223372036854775808) (bestN dn l l.length)) := by
  have hin := bestN_in dn l l.length
  have hb := bestN_best dn l l.length
  generalize bestN dn l l.length = b at hin hb ⊢
  obtain ⟨x, hx, hn⟩ := nnI_pos h
  obtain ⟨i, hi, rfl⟩ := List.getElem_of_mem hx
  have h0 : 0 ≤ b := by
    apply Int.not_lt.1
    intro hlt
    have := hb.1 hlt i hi
    rw [getD_lt hi] at this
    exact hn this
  have hq : pickI l (-9223372036854775808) b = l.getD b.toNat 0 := by
    unfold pickI
    rw [if_pos ⟨h0, hin.2⟩]
  rw [hq]
  refine ⟨?_, (hb.2 h0).1, fun y hy hny => ?_⟩
  · rw [getD_lt (by omega)]
    exact List.getElem_mem _
  · obtain ⟨j, hj, rfl⟩ := List.getElem_of_mem hy
    have := (hb.2 h0).2 j hj
    rw [getD_lt hj] at this
    exact this hny
theorem nnI_cons (a : Int) (r : List Int) : nnI (a :: r) = nnI r + if a = -9223372036854775808 then 0 else 1 := by
  unfold nnI
  rw [List.countP_cons]
  by_cases h : a = -9223372036854775808 <;> simp [h]
theorem sumL_ge (m : Int) (l : List Int) (h : ∀ x ∈ l, x ≠ -9223372036854775808 → m ≤ x) : m * (nnI l : Int) ≤ sumL l := by
  induction l with
  | nil => simp [sumL, nnI]
  | cons a r ih =>
    have h1 := ih fun x hx => h x (by simp [hx])
    rw [nnI_cons]
    unfold sumL addN
    by_cases ha : a = -9223372036854775808
    · rw [if_pos ha, if_pos ha]
      simpa using h1
    · rw [if_neg ha, if_neg ha]
      have h2 := h a (by simp) ha
      have e : m * ((nnI r + 1 : Nat) : Int) = m * (nnI r : Int) + m := by rw [Int.natCast_add, Int.mul_add]; simp
      rw [e]
      omega
theorem sumL_le (m : Int) (l : List Int) (h : ∀ x ∈ l, x ≠ -9223372036854775808 → x ≤ m) : sumL l ≤ m * (nnI l : Int) := by
  induction l with
  | nil => simp [sumL, nnI]
  | cons a r ih =>
    have h1 := ih fun x hx => h x (by simp [hx])
    rw [nnI_cons]
    unfold sumL addN
    by_cases ha : a = -9223372036854775808
    · rw [if_pos ha, if_pos ha]
      simpa using h1
    · rw [if_neg ha, if_neg ha]
      have h2 := h a (by simp) ha
      have e : m * ((nnI r + 1 : Nat) : Int) = m * (nnI r : Int) + m := by rw [Int.natCast_add, Int.mul_add]; simp
      rw [e]
      omega
/-- The average lies between what is below all and what is above all. -/
theorem avg_in (lo hi : Int) (l : List Int) (h : 0 < nnI l) (h1 : ∀ x ∈ l, x ≠ -9223372036854775808 → lo ≤ x) (h2 : ∀ x ∈ l, x ≠ -9223372036854775808 → x ≤ hi) : lo ≤ sumL l / (nnI l : Int) ∧ sumL l / (nnI l : Int) ≤ hi := by
  have hc : (0 : Int) < (nnI l : Int) := by omega
  have a := sumL_ge lo l h1
  have b := sumL_le hi l h2
  refine ⟨Int.le_ediv_of_mul_le hc a, ?_⟩
  exact Int.ediv_le_of_le_mul hc b
/-- What an average's division asks. -/
theorem avg_bd (l : List Int) (hI : ∀ k ∈ l, I64 k) (h : 0 < nnI l) : sumL l < (nnI l : Int) * 9223372036854775808 ∧ -((nnI l : Int) * 9223372036854775808) ≤ sumL l := by
  have a := sumL_ge (-9223372036854775808) l fun x hx _ => (hI x hx).1
  have b := sumL_le 9223372036854775807 l fun x hx _ => (hI x hx).2
  omega
theorem eachO_some {f : Int → Int → Option Int} {a b : List Int} : ∀ (c i : Nat) (xs : List Int), eachO f a b i c = some xs → xs.length = c ∧ ∀ (j : Nat) (h : j < xs.length), f (a.getD (min (i + j) (a.length - 1)) 0) (b.getD (min (i + j) (b.length - 1)) 0) = some xs[j] := by
  intro c
  induction c with
  | zero =>
    intro i xs h
    have : xs = [] := by injection h with h; exact h.symm
    subst this
    exact ⟨rfl, fun j h => absurd h (Nat.not_lt_zero j)⟩
  | succ c ih =>
    intro i xs h
    rw [eachO] at h
    cases hf : f (a.getD (min i (a.length - 1)) 0) (b.getD (min i (b.length - 1)) 0) with
    | none => rw [hf] at h; cases h
    | some n =>
      rw [hf, Option.bind_some] at h
      cases he : eachO f a b (i + 1) c with
      | none => rw [he] at h; cases h
      | some ys =>
        rw [he] at h
        injection h with h
        subst h
        obtain ⟨h1, h2⟩ := ih (i + 1) ys he
        refine ⟨by simp [h1], fun j hj => ?_⟩
        cases j with
        | zero => simpa using hf
        | succ j =>
          have := h2 j (by simpa using hj)
          rw [show i + (j + 1) = i + 1 + j by omega]
          simpa using this
/-- Where no element is null, sums undo differences. -/
theorem undo (l xs : List Int) (hn : ∀ x ∈ l, x ≠ -9223372036854775808) (h : eachO (strictF difF) (l.drop 1) (l.take (l.length - 1)) 0 (l.length - 1) = some xs) (i : Nat) (hi : i < l.length) :
    sumL ((l.take 1 ++ xs).take (i + 1)) = l[i] := by
  obtain ⟨h1, h2⟩ := eachO_some _ _ _ h
  induction i with
  | zero =>
    cases l with
    | nil => simp at hi
    | cons a r =>
      have : a ≠ -9223372036854775808 := hn a (by simp)
      simp [sumL, addN, this]
  | succ i ih =>
    have hlt : i < xs.length := by omega
    have e1 : (l.take 1 ++ xs).take (i + 1 + 1) = (l.take 1 ++ xs).take (i + 1) ++ [xs[i]] := by
      rw [List.take_succ_eq_append_getElem (by simp; omega)]
      congr 2
      rw [List.getElem_append_right (by simp; omega)]
      congr 1
      simp
      omega
    rw [e1, sumL_app, ih (by omega)]
    have e2 := h2 i hlt
    have e3 : (l.drop 1).getD (min (0 + i) ((l.drop 1).length - 1)) 0 = l[i + 1] := by
      rw [List.length_drop, show min (0 + i) (l.length - 1 - 1) = i by omega, List.getD_eq_getElem?_getD, List.getElem?_drop, Nat.add_comm 1 i, List.getElem?_eq_getElem hi]
      rfl
    have e4 : (l.take (l.length - 1)).getD (min (0 + i) ((l.take (l.length - 1)).length - 1)) 0 = l[i] := by
      rw [List.length_take, show min (0 + i) (min (l.length - 1) l.length - 1) = i by omega, List.getD_eq_getElem?_getD, List.getElem?_take, if_pos (by omega), List.getElem?_eq_getElem (by omega)]
      rfl
    rw [e3, e4] at e2
    have n1 := hn l[i + 1] (List.getElem_mem _)
    have n2 := hn l[i] (List.getElem_mem _)
    unfold strictF difF sumF at e2
    rw [if_neg (by omega)] at e2
    by_cases hc : -9223372036854775807 ≤ l[i + 1] + -l[i] ∧ l[i + 1] + -l[i] ≤ 9223372036854775807
    · rw [if_pos hc] at e2
      injection e2 with e2
      simp only [sumL, addN]
      rw [if_neg (by omega)]
      omega
    · rw [if_neg hc] at e2
      cases e2
/-- What Sums makes. -/
def prefL (l : List Int) : List Int := (List.range l.length).map fun i => sumL (l.take (i + 1))
theorem prefL_undo (l xs : List Int) (hn : ∀ x ∈ l, x ≠ -9223372036854775808) (h : eachO (strictF difF) (l.drop 1) (l.take (l.length - 1)) 0 (l.length - 1) = some xs) : prefL (l.take 1 ++ xs) = l := by
  have h1 := (eachO_some _ _ _ h).1
  have hl : (l.take 1 ++ xs).length = l.length := by simp [h1]; omega
  apply List.ext_getElem
  · simp only [prefL, List.length_map, List.length_range, hl]
  · intro i h2 h3
    simp only [prefL, List.getElem_map, List.getElem_range]
    exact undo l xs hn h i h3
end Go.Proofs.YtgepejnooghjbaaGreat

namespace Go.Proofs.YtgepejnooghjbaaGreat
open Go.RowKit

theorem folR4_some (n s sm : Int) (F : Vl) (hn : 0 ≤ n ∧ n ≤ 1100000) (hsn : 0 ≤ s ∧ s ≤ 1100000) (hsm : Sum64 sm) (hs : 0 < s) : FolR 4 n s sm F := fun w fA fc gA gc hA hc f ho =>
  (follow_first 4 n s sm rfl rfl hn hsn hsm F.t fA F.n.length fc gA F.s.length gc hA F.l.length hc (fun w2 => surp4_some n s (sm / 4294967296) (sm % 4294967296) (.int .i64 F.t) (.slice fA F.n.length fc) (.slice gA F.s.length gc) (.slice hA F.l.length hc) hs w2) w).mono fun _ _ h => ⟨⟨fA, fc, gA, gc, hA, hc, f, h.1, ho.grow h.2, fun _ hb => hb⟩, h.2⟩
theorem folR5_some (n s sm : Int) (F : Vl) (hn : 0 ≤ n ∧ n ≤ 1100000) (hsn : 0 ≤ s ∧ s ≤ 1100000) (hsm : Sum64 sm) (hs : 0 < s) : FolR 5 n s sm F := fun w fA fc gA gc hA hc f ho =>
  (follow_first 5 n s sm rfl rfl hn hsn hsm F.t fA F.n.length fc gA F.s.length gc hA F.l.length hc (fun w2 => surp5_some n s (sm / 4294967296) (sm % 4294967296) (.int .i64 F.t) (.slice fA F.n.length fc) (.slice gA F.s.length gc) (.slice hA F.l.length hc) hs w2) w).mono fun _ _ h => ⟨⟨fA, fc, gA, gc, hA, hc, f, h.1, ho.grow h.2, fun _ hb => hb⟩, h.2⟩
theorem folR4_none0 (n s sm : Int) (hn : 0 ≤ n ∧ n ≤ 1100000) (hsn : 0 ≤ s ∧ s ≤ 1100000) (hsm : Sum64 sm) (hs : s = 0) : FolR 4 n s sm emp8 := fun w fA fc gA gc hA hc _ _ =>
  (follow_plain 4 n s sm rfl rfl hn hsn hsm 0 fA 0 fc gA 0 gc hA 0 hc (fun w2 => surp4_none n s (sm / 4294967296) (sm % 4294967296) (.int .i64 0) (.slice fA 0 fc) (.slice gA 0 gc) (.slice hA 0 hc) hs w2) w).mono fun _ w' h => ⟨⟨none, 0, none, 0, none, 0, [], h.1, vow_emp8 w', by simp⟩, h.2⟩
theorem folR5_none0 (n s sm : Int) (hn : 0 ≤ n ∧ n ≤ 1100000) (hsn : 0 ≤ s ∧ s ≤ 1100000) (hsm : Sum64 sm) (hs : s = 0) : FolR 5 n s sm emp8 := fun w fA fc gA gc hA hc _ _ =>
  (follow_plain 5 n s sm rfl rfl hn hsn hsm 0 fA 0 fc gA 0 gc hA 0 hc (fun w2 => surp5_none n s (sm / 4294967296) (sm % 4294967296) (.int .i64 0) (.slice fA 0 fc) (.slice gA 0 gc) (.slice hA 0 hc) hs w2) w).mono fun _ w' h => ⟨⟨none, 0, none, 0, none, 0, [], h.1, vow_emp8 w', by simp⟩, h.2⟩
theorem folR3_some0 (n s sm : Int) (hn : 0 ≤ n ∧ n ≤ 1100000) (hsn : 0 ≤ s ∧ s ≤ 1100000) (hsm : Sum64 sm) (hs : 0 < s) : FolR 3 n s sm emp8 := fun w fA fc gA gc hA hc _ _ =>
  (follow_plain 3 n s sm rfl rfl hn hsn hsm 0 fA 0 fc gA 0 gc hA 0 hc (fun w2 => surp3_some n s (sm / 4294967296) (sm % 4294967296) (.int .i64 0) (.slice fA 0 fc) (.slice gA 0 gc) (.slice hA 0 hc) hs w2) w).mono fun _ w' h => ⟨⟨none, 0, none, 0, none, 0, [], h.1, vow_emp8 w', by simp⟩, h.2⟩
theorem folR3_none0 (n s sm : Int) (hn : 0 ≤ n ∧ n ≤ 1100000) (hsn : 0 ≤ s ∧ s ≤ 1100000) (hsm : Sum64 sm) (hs : s = 0) : FolR 3 n s sm emp8 := fun w fA fc gA gc hA hc _ _ =>
  (follow_plain 3 n s sm rfl rfl hn hsn hsm 0 fA 0 fc gA 0 gc hA 0 hc (fun w2 => surp3_none n s (sm / 4294967296) (sm % 4294967296) (.int .i64 0) (.slice fA 0 fc) (.slice gA 0 gc) (.slice hA 0 hc) hs w2) w).mono fun _ w' h => ⟨⟨none, 0, none, 0, none, 0, [], h.1, vow_emp8 w', by simp⟩, h.2⟩
theorem folR6_some0 (n s sm : Int) (hn : 0 ≤ n ∧ n ≤ 1100000) (hsn : 0 ≤ s ∧ s ≤ 1100000) (hsm : Sum64 sm) (hs : 0 < s) : FolR 6 n s sm emp8 := fun w fA fc gA gc hA hc _ _ =>
  (follow_plain 6 n s sm rfl rfl hn hsn hsm 0 fA 0 fc gA 0 gc hA 0 hc (fun w2 => surp6_some n s (sm / 4294967296) (sm % 4294967296) (.int .i64 0) (.slice fA 0 fc) (.slice gA 0 gc) (.slice hA 0 hc) hs w2) w).mono fun _ w' h => ⟨⟨none, 0, none, 0, none, 0, [], h.1, vow_emp8 w', by simp⟩, h.2⟩
theorem folR6_none0 (n s sm : Int) (hn : 0 ≤ n ∧ n ≤ 1100000) (hsn : 0 ≤ s ∧ s ≤ 1100000) (hsm : Sum64 sm) (hs : s = 0) : FolR 6 n s sm emp8 := fun w fA fc gA gc hA hc _ _ =>
  (follow_plain 6 n s sm rfl rfl hn hsn hsm 0 fA 0 fc gA 0 gc hA 0 hc (fun w2 => surp6_none n s (sm / 4294967296) (sm % 4294967296) (.int .i64 0) (.slice fA 0 fc) (.slice gA 0 gc) (.slice hA 0 hc) hs w2) w).mono fun _ w' h => ⟨⟨none, 0, none, 0, none, 0, [], h.1, vow_emp8 w', by simp⟩, h.2⟩
theorem folR3 (n s sm : Int) (hn : 0 ≤ n ∧ n ≤ 1100000) (hsn : 0 ≤ s ∧ s ≤ 1100000) (hsm : Sum64 sm) : FolR 3 n s sm emp8 := by
  by_cases h : s = 0
  · exact folR3_none0 n s sm hn hsn hsm h
  · exact folR3_some0 n s sm hn hsn hsm (by omega)
theorem folR6 (n s sm : Int) (hn : 0 ≤ n ∧ n ≤ 1100000) (hsn : 0 ≤ s ∧ s ≤ 1100000) (hsm : Sum64 sm) : FolR 6 n s sm emp8 := by
  by_cases h : s = 0
  · exact folR6_none0 n s sm hn hsn hsm h
  · exact folR6_some0 n s sm hn hsn hsm (by omega)
theorem sum64_0 : Sum64 0 := ⟨by decide, by decide⟩
theorem sum64_l (l : List Int) (hI : ∀ k ∈ l, I64 k) (hl : l.length ≤ 400000) : Sum64 (sumL l) := by
  have := sumL_in l hI
  constructor <;> omega
theorem tot_atom (t x : Int) : (Vl.mk t [x] [] []).tot ≤ 500000 := by
  rw [Vl.tot_def]; show 1 + 1 + 0 + 0 + 0 ≤ 500000; decide
theorem tot_int (l : List Int) (hl : l.length ≤ 400000) : (Vl.mk 2 l [] []).tot ≤ 500000 := by
  rw [Vl.tot_def]; show 1 + l.length + 0 + 0 + 0 ≤ 500000; omega
theorem do_least (l : List Int) (hI : ∀ k ∈ l, I64 k) (hl : l.length ≤ 400000) (w : World) (B : Nat) (nA : Option Addr) (nc : Nat) (sA : Option Addr) (sc : Nat) (lA : Option Addr) (lc : Nat) (hB : B ≤ w.heap.size) (h : VB w B (.mk 2 l [] []) nA nc sA sc lA lc) :
    Calls Tryz.prog 15 #[.int .i64 4, .agg #[.int .i64 2, .slice nA l.length nc, .slice sA 0 sc, .slice lA 0 lc]] w (TupV (.mk (-2) [if nnI l = 0 then -9223372036854775808 else pickI l (-9223372036854775808) (bestN false l l.length)] [] []) w) := by
  have hnn := nnI_le l
  have hn : (0 : Int) ≤ (l.length : Int) ∧ (l.length : Int) ≤ 1100000 := ⟨by omega, by omega⟩
  have hsn : (0 : Int) ≤ (nnI l : Int) ∧ (nnI l : Int) ≤ 1100000 := ⟨by omega, by omega⟩
  by_cases hs : nnI l = 0
  · rw [if_pos hs]
    have hz : ((nnI l : Nat) : Int) = 0 := by rw [hs]; rfl
    have hadd : ∀ w4, w.grownBy w4 none → Calls Tryz.prog 34 #[.agg #[.int .i64 4, .int .i64 (-1), .int .i64 0, .int .i64 0, .int .i64 0, .int .i64 0, .int .i64 0, .slice none 0 0, .slice none 0 0, .slice none 0 0, .int .i64 0, .slice none 0 0, .slice none 0 0, .slice none 0 0, .int .i64 0], .slice (some ⟨w4.heap.size, 0, none⟩) 1 1] (w4.alloc (.cells #[.int .i64 2, .slice nA l.length nc, .slice sA 0 sc, .slice lA 0 lc] 26)) (AccC 4 2 l.length 0 (0 / 4294967296) (0 % 4294967296) 0 (emp8) (w4.alloc (.cells #[.int .i64 2, .slice nA l.length nc, .slice sA 0 sc, .slice lA 0 lc] 26))) := fun w4 hg4 =>
      add_one 4 l.length 0 (0) (emp8) (.mk 2 l [] []) _ w4.heap.size nA nc sA sc lA lc (by decide) (heap_alloc_new w4 _)
        (fun w2 hg2 => (by have := piece4_none l hI hl hs w2 B nA nc sA sc lA lc (tot_int l hl) (Nat.le_trans hB (gb_trans hg4 (gb_trans (gb_alloc (gb_refl w4 none) _) hg2 (.inl rfl)) (.inl rfl)).size) (h.gb (gb_trans hg4 (gb_trans (gb_alloc (gb_refl w4 none) _) hg2 (.inl rfl)) (.inl rfl)) hB); rwa [hz] at this)) (folR4_none0 _ 0 0 hn ⟨by decide, by decide⟩ sum64_0 rfl)
    exact do_val 4 l.length 0 0 emp8 (.mk (-2) [-9223372036854775808] [] []) (.mk 2 l [] []) (by decide) (by decide) w nA nc sA sc lA lc hadd
      (fun w5 fA fc gA gc hA hc sA sc tA tc uA uc f _ => close4_none l.length 0 emp8 fA fc gA gc hA hc sA sc tA tc uA uc w5)
  · rw [if_neg hs]
    have hp : 0 < nnI l := by omega
    have hadd : ∀ w4, w.grownBy w4 none → Calls Tryz.prog 34 #[.agg #[.int .i64 4, .int .i64 (-1), .int .i64 0, .int .i64 0, .int .i64 0, .int .i64 0, .int .i64 0, .slice none 0 0, .slice none 0 0, .slice none 0 0, .int .i64 0, .slice none 0 0, .slice none 0 0, .slice none 0 0, .int .i64 0], .slice (some ⟨w4.heap.size, 0, none⟩) 1 1] (w4.alloc (.cells #[.int .i64 2, .slice nA l.length nc, .slice sA 0 sc, .slice lA 0 lc] 26)) (AccC 4 2 l.length (nnI l : Int) (0 / 4294967296) (0 % 4294967296) 0 (.mk (-2) [pickI l (-9223372036854775808) (bestN false l l.length)] [] []) (w4.alloc (.cells #[.int .i64 2, .slice nA l.length nc, .slice sA 0 sc, .slice lA 0 lc] 26))) := fun w4 hg4 =>
      add_one 4 l.length (nnI l : Int) (0) (.mk (-2) [pickI l (-9223372036854775808) (bestN false l l.length)] [] []) (.mk 2 l [] []) _ w4.heap.size nA nc sA sc lA lc (tot_atom _ _) (heap_alloc_new w4 _)
        (fun w2 hg2 => piece4_some l hI hl hp w2 B nA nc sA sc lA lc (tot_int l hl) (Nat.le_trans hB (gb_trans hg4 (gb_trans (gb_alloc (gb_refl w4 none) _) hg2 (.inl rfl)) (.inl rfl)).size) (h.gb (gb_trans hg4 (gb_trans (gb_alloc (gb_refl w4 none) _) hg2 (.inl rfl)) (.inl rfl)) hB)) (folR4_some _ _ 0 _ hn hsn sum64_0 (by omega))
    exact do_val 4 l.length (nnI l : Int) 0 (.mk (-2) [pickI l (-9223372036854775808) (bestN false l l.length)] [] []) (.mk (-2) [pickI l (-9223372036854775808) (bestN false l l.length)] [] []) (.mk 2 l [] []) (by decide) (by decide) w nA nc sA sc lA lc hadd
      (fun w5 fA fc gA gc hA hc sA sc tA tc uA uc f ho => close4_some l.length (nnI l : Int) 0 _ fA fc gA gc hA hc sA sc tA tc uA uc (by omega) (tot_atom _ _) w5 ho.vb)
theorem do_most (l : List Int) (hI : ∀ k ∈ l, I64 k) (hl : l.length ≤ 400000) (w : World) (B : Nat) (nA : Option Addr) (nc : Nat) (sA : Option Addr) (sc : Nat) (lA : Option Addr) (lc : Nat) (hB : B ≤ w.heap.size) (h : VB w B (.mk 2 l [] []) nA nc sA sc lA lc) :
    Calls Tryz.prog 15 #[.int .i64 5, .agg #[.int .i64 2, .slice nA l.length nc, .slice sA 0 sc, .slice lA 0 lc]] w (TupV (.mk (-2) [if nnI l = 0 then -9223372036854775808 else pickI l (-9223372036854775808) (bestN true l l.length)] [] []) w) := by
  have hnn := nnI_le l
  have hn : (0 : Int) ≤ (l.length : Int) ∧ (l.length : Int) ≤ 1100000 := ⟨by omega, by omega⟩
  have hsn : (0 : Int) ≤ (nnI l : Int) ∧ (nnI l : Int) ≤ 1100000 := ⟨by omega, by omega⟩
  by_cases hs : nnI l = 0
  · rw [if_pos hs]
    have hz : ((nnI l : Nat) : Int) = 0 := by rw [hs]; rfl
    have hadd : ∀ w4, w.grownBy w4 none → Calls Tryz.prog 34 #[.agg #[.int .i64 5, .int .i64 (-1), .int .i64 0, .int .i64 0, .int .i64 0, .int .i64 0, .int .i64 0, .slice none 0 0, .slice none 0 0, .slice none 0 0, .int .i64 0, .slice none 0 0, .slice none 0 0, .slice none 0 0, .int .i64 0], .slice (some ⟨w4.heap.size, 0, none⟩) 1 1] (w4.alloc (.cells #[.int .i64 2, .slice nA l.length nc, .slice sA 0 sc, .slice lA 0 lc] 26)) (AccC 5 2 l.length 0 (0 / 4294967296) (0 % 4294967296) 0 (emp8) (w4.alloc (.cells #[.int .i64 2, .slice nA l.length nc, .slice sA 0 sc, .slice lA 0 lc] 26))) := fun w4 hg4 =>
      add_one 5 l.length 0 (0) (emp8) (.mk 2 l [] []) _ w4.heap.size nA nc sA sc lA lc (by decide) (heap_alloc_new w4 _)
        (fun w2 hg2 => (by have := piece5_none l hI hl hs w2 B nA nc sA sc lA lc (tot_int l hl) (Nat.le_trans hB (gb_trans hg4 (gb_trans (gb_alloc (gb_refl w4 none) _) hg2 (.inl rfl)) (.inl rfl)).size) (h.gb (gb_trans hg4 (gb_trans (gb_alloc (gb_refl w4 none) _) hg2 (.inl rfl)) (.inl rfl)) hB); rwa [hz] at this)) (folR5_none0 _ 0 0 hn ⟨by decide, by decide⟩ sum64_0 rfl)
    exact do_val 5 l.length 0 0 emp8 (.mk (-2) [-9223372036854775808] [] []) (.mk 2 l [] []) (by decide) (by decide) w nA nc sA sc lA lc hadd
      (fun w5 fA fc gA gc hA hc sA sc tA tc uA uc f _ => close5_none l.length 0 emp8 fA fc gA gc hA hc sA sc tA tc uA uc w5)
  · rw [if_neg hs]
    have hp : 0 < nnI l := by omega
    have hadd : ∀ w4, w.grownBy w4 none → Calls Tryz.prog 34 #[.agg #[.int .i64 5, .int .i64 (-1), .int .i64 0, .int .i64 0, .int .i64 0, .int .i64 0, .int .i64 0, .slice none 0 0, .slice none 0 0, .slice none 0 0, .int .i64 0, .slice none 0 0, .slice none 0 0, .slice none 0 0, .int .i64 0], .slice (some ⟨w4.heap.size, 0, none⟩) 1 1] (w4.alloc (.cells #[.int .i64 2, .slice nA l.length nc, .slice sA 0 sc, .slice lA 0 lc] 26)) (AccC 5 2 l.length (nnI l : Int) (0 / 4294967296) (0 % 4294967296) 0 (.mk (-2) [pickI l (-9223372036854775808) (bestN true l l.length)] [] []) (w4.alloc (.cells #[.int .i64 2, .slice nA l.length nc, .slice sA 0 sc, .slice lA 0 lc] 26))) := fun w4 hg4 =>
      add_one 5 l.length (nnI l : Int) (0) (.mk (-2) [pickI l (-9223372036854775808) (bestN true l l.length)] [] []) (.mk 2 l [] []) _ w4.heap.size nA nc sA sc lA lc (tot_atom _ _) (heap_alloc_new w4 _)
        (fun w2 hg2 => piece5_some l hI hl hp w2 B nA nc sA sc lA lc (tot_int l hl) (Nat.le_trans hB (gb_trans hg4 (gb_trans (gb_alloc (gb_refl w4 none) _) hg2 (.inl rfl)) (.inl rfl)).size) (h.gb (gb_trans hg4 (gb_trans (gb_alloc (gb_refl w4 none) _) hg2 (.inl rfl)) (.inl rfl)) hB)) (folR5_some _ _ 0 _ hn hsn sum64_0 (by omega))
    exact do_val 5 l.length (nnI l : Int) 0 (.mk (-2) [pickI l (-9223372036854775808) (bestN true l l.length)] [] []) (.mk (-2) [pickI l (-9223372036854775808) (bestN true l l.length)] [] []) (.mk 2 l [] []) (by decide) (by decide) w nA nc sA sc lA lc hadd
      (fun w5 fA fc gA gc hA hc sA sc tA tc uA uc f ho => close5_some l.length (nnI l : Int) 0 _ fA fc gA gc hA hc sA sc tA tc uA uc (by omega) (tot_atom _ _) w5 ho.vb)
theorem do_sum_ok (l : List Int) (hI : ∀ k ∈ l, I64 k) (hl : l.length ≤ 400000) (w : World) (B : Nat) (nA : Option Addr) (nc : Nat) (sA : Option Addr) (sc : Nat) (lA : Option Addr) (lc : Nat) (hB : B ≤ w.heap.size) (h : VB w B (.mk 2 l [] []) nA nc sA sc lA lc) (hk : -9223372036854775807 ≤ sumL l ∧ sumL l ≤ 9223372036854775807) :
    Calls Tryz.prog 15 #[.int .i64 3, .agg #[.int .i64 2, .slice nA l.length nc, .slice sA 0 sc, .slice lA 0 lc]] w (TupV (.mk (-2) [sumL l] [] []) w) := by
  have hnn := nnI_le l
  have hn : (0 : Int) ≤ (l.length : Int) ∧ (l.length : Int) ≤ 1100000 := ⟨by omega, by omega⟩
  have hsn : (0 : Int) ≤ (nnI l : Int) ∧ (nnI l : Int) ≤ 1100000 := ⟨by omega, by omega⟩
  have hsm := sum64_l l hI hl
  have hadd : ∀ w4, w.grownBy w4 none → Calls Tryz.prog 34 #[.agg #[.int .i64 3, .int .i64 (-1), .int .i64 0, .int .i64 0, .int .i64 0, .int .i64 0, .int .i64 0, .slice none 0 0, .slice none 0 0, .slice none 0 0, .int .i64 0, .slice none 0 0, .slice none 0 0, .slice none 0 0, .int .i64 0], .slice (some ⟨w4.heap.size, 0, none⟩) 1 1] (w4.alloc (.cells #[.int .i64 2, .slice nA l.length nc, .slice sA 0 sc, .slice lA 0 lc] 26)) (AccC 3 2 l.length (nnI l : Int) (sumL l / 4294967296) (sumL l % 4294967296) 0 (emp8) (w4.alloc (.cells #[.int .i64 2, .slice nA l.length nc, .slice sA 0 sc, .slice lA 0 lc] 26))) := fun w4 hg4 =>
    add_one 3 l.length (nnI l : Int) (sumL l) (emp8) (.mk 2 l [] []) _ w4.heap.size nA nc sA sc lA lc (by decide) (heap_alloc_new w4 _)
      (fun w2 hg2 => piece3_sum l hI hl w2 B nA nc sA sc lA lc (tot_int l hl) (Nat.le_trans hB (gb_trans hg4 (gb_trans (gb_alloc (gb_refl w4 none) _) hg2 (.inl rfl)) (.inl rfl)).size) (h.gb (gb_trans hg4 (gb_trans (gb_alloc (gb_refl w4 none) _) hg2 (.inl rfl)) (.inl rfl)) hB)) (folR3 _ _ _ hn hsn hsm)
  exact do_val 3 l.length (nnI l : Int) (sumL l) emp8 (.mk (-2) [sumL l] [] []) (.mk 2 l [] []) (by decide) (by decide) w nA nc sA sc lA lc hadd
    (fun w5 fA fc gA gc hA hc sA sc tA tc uA uc f _ => close3_ok l.length (nnI l : Int) (sumL l) emp8 fA fc gA gc hA hc sA sc tA tc uA uc hk hsm w5)
theorem do_sum_over (l : List Int) (hI : ∀ k ∈ l, I64 k) (hl : l.length ≤ 400000) (w : World) (B : Nat) (nA : Option Addr) (nc : Nat) (sA : Option Addr) (sc : Nat) (lA : Option Addr) (lc : Nat) (hB : B ≤ w.heap.size) (h : VB w B (.mk 2 l [] []) nA nc sA sc lA lc) (hk : ¬ (-9223372036854775807 ≤ sumL l ∧ sumL l ≤ 9223372036854775807)) :
    Calls Tryz.prog 15 #[.int .i64 3, .agg #[.int .i64 2, .slice nA l.length nc, .slice sA 0 sc, .slice lA 0 lc]] w (fun e w' => e = .returned (.tuple #[.agg #[.int .i64 0, .slice none 0 0, .slice none 0 0, .slice none 0 0], .int .i64 70]) ∧ w.grownBy w' none) := by
  have hnn := nnI_le l
  have hn : (0 : Int) ≤ (l.length : Int) ∧ (l.length : Int) ≤ 1100000 := ⟨by omega, by omega⟩
  have hsn : (0 : Int) ≤ (nnI l : Int) ∧ (nnI l : Int) ≤ 1100000 := ⟨by omega, by omega⟩
  have hsm := sum64_l l hI hl
  have hadd : ∀ w4, w.grownBy w4 none → Calls Tryz.prog 34 #[.agg #[.int .i64 3, .int .i64 (-1), .int .i64 0, .int .i64 0, .int .i64 0, .int .i64 0, .int .i64 0, .slice none 0 0, .slice none 0 0, .slice none 0 0, .int .i64 0, .slice none 0 0, .slice none 0 0, .slice none 0 0, .int .i64 0], .slice (some ⟨w4.heap.size, 0, none⟩) 1 1] (w4.alloc (.cells #[.int .i64 2, .slice nA l.length nc, .slice sA 0 sc, .slice lA 0 lc] 26)) (AccC 3 2 l.length (nnI l : Int) (sumL l / 4294967296) (sumL l % 4294967296) 0 (emp8) (w4.alloc (.cells #[.int .i64 2, .slice nA l.length nc, .slice sA 0 sc, .slice lA 0 lc] 26))) := fun w4 hg4 =>
    add_one 3 l.length (nnI l : Int) (sumL l) (emp8) (.mk 2 l [] []) _ w4.heap.size nA nc sA sc lA lc (by decide) (heap_alloc_new w4 _)
      (fun w2 hg2 => piece3_sum l hI hl w2 B nA nc sA sc lA lc (tot_int l hl) (Nat.le_trans hB (gb_trans hg4 (gb_trans (gb_alloc (gb_refl w4 none) _) hg2 (.inl rfl)) (.inl rfl)).size) (h.gb (gb_trans hg4 (gb_trans (gb_alloc (gb_refl w4 none) _) hg2 (.inl rfl)) (.inl rfl)) hB)) (folR3 _ _ _ hn hsn hsm)
  exact do_err 3 l.length (nnI l : Int) (sumL l) emp8 (.mk 2 l [] []) (by decide) (by decide) w nA nc sA sc lA lc hadd
    (fun w5 fA fc gA gc hA hc sA sc tA tc uA uc f _ => close3_over l.length (nnI l : Int) (sumL l) emp8 fA fc gA gc hA hc sA sc tA tc uA uc hk hsm w5)
theorem do_avg (l : List Int) (hI : ∀ k ∈ l, I64 k) (hl : l.length ≤ 400000) (w : World) (B : Nat) (nA : Option Addr) (nc : Nat) (sA : Option Addr) (sc : Nat) (lA : Option Addr) (lc : Nat) (hB : B ≤ w.heap.size) (h : VB w B (.mk 2 l [] []) nA nc sA sc lA lc) :
    Calls Tryz.prog 15 #[.int .i64 6, .agg #[.int .i64 2, .slice nA l.length nc, .slice sA 0 sc, .slice lA 0 lc]] w (TupV (.mk (-2) [if nnI l = 0 then -9223372036854775808 else sumL l / (nnI l : Int)] [] []) w) := by
  have hnn := nnI_le l
  have hn : (0 : Int) ≤ (l.length : Int) ∧ (l.length : Int) ≤ 1100000 := ⟨by omega, by omega⟩
  have hsn : (0 : Int) ≤ (nnI l : Int) ∧ (nnI l : Int) ≤ 1100000 := ⟨by omega, by omega⟩
  have hsm := sum64_l l hI hl
  have hadd : ∀ w4, w.grownBy w4 none → Calls Tryz.prog 34 #[.agg #[.int .i64 6, .int .i64 (-1), .int .i64 0, .int .i64 0, .int .i64 0, .int .i64 0, .int .i64 0, .slice none 0 0, .slice none 0 0, .slice none 0 0, .int .i64 0, .slice none 0 0, .slice none 0 0, .slice none 0 0, .int .i64 0], .slice (some ⟨w4.heap.size, 0, none⟩) 1 1] (w4.alloc (.cells #[.int .i64 2, .slice nA l.length nc, .slice sA 0 sc, .slice lA 0 lc] 26)) (AccC 6 2 l.length (nnI l : Int) (sumL l / 4294967296) (sumL l % 4294967296) 0 (emp8) (w4.alloc (.cells #[.int .i64 2, .slice nA l.length nc, .slice sA 0 sc, .slice lA 0 lc] 26))) := fun w4 hg4 =>
    add_one 6 l.length (nnI l : Int) (sumL l) (emp8) (.mk 2 l [] []) _ w4.heap.size nA nc sA sc lA lc (by decide) (heap_alloc_new w4 _)
      (fun w2 hg2 => piece6_sum l hI hl w2 B nA nc sA sc lA lc (tot_int l hl) (Nat.le_trans hB (gb_trans hg4 (gb_trans (gb_alloc (gb_refl w4 none) _) hg2 (.inl rfl)) (.inl rfl)).size) (h.gb (gb_trans hg4 (gb_trans (gb_alloc (gb_refl w4 none) _) hg2 (.inl rfl)) (.inl rfl)) hB)) (folR6 _ _ _ hn hsn hsm)
  by_cases hs : nnI l = 0
  · rw [if_pos hs]
    exact do_val 6 l.length (nnI l : Int) (sumL l) emp8 (.mk (-2) [-9223372036854775808] [] []) (.mk 2 l [] []) (by decide) (by decide) w nA nc sA sc lA lc hadd
      (fun w5 fA fc gA gc hA hc sA sc tA tc uA uc f _ => close6_none l.length (nnI l : Int) (sumL l) emp8 fA fc gA gc hA hc sA sc tA tc uA uc (by rw [hs]; rfl) w5)
  · rw [if_neg hs]
    have hp : 0 < nnI l := by omega
    have hb := avg_bd l hI hp
    have hq : ∀ w2, Calls Tryz.prog 91 #[.agg #[.int .i64 (sumL l / 4294967296), .int .i64 (sumL l % 4294967296)], .int .i64 (nnI l : Int)] w2 fun e w' => e = .returned (.int .i64 (sumL l / (nnI l : Int))) ∧ w2.grownBy w' none := fun w2 => by
      by_cases h0 : 0 ≤ sumL l
      · exact over_up (sumL l) (nnI l) hp (by omega) h0 hb.1 w2
      · exact over_down (sumL l) (nnI l) hp (by omega) (by omega) hb.2 w2
    exact do_val 6 l.length (nnI l : Int) (sumL l) emp8 (.mk (-2) [sumL l / (nnI l : Int)] [] []) (.mk 2 l [] []) (by decide) (by decide) w nA nc sA sc lA lc hadd
      (fun w5 fA fc gA gc hA hc sA sc tA tc uA uc f _ => close6_some l.length (nnI l : Int) (sumL l) emp8 fA fc gA gc hA hc sA sc tA tc uA uc (by omega) _ hq w5)
end Go.Proofs.YtgepejnooghjbaaGreat

namespace Go.Proofs
open Go.Shelf Go.RowKit
def Tryz.grow_ren : Go.Shelf.Ren := ⟨fun | 4 => 73 | n => n, fun | 0 => 0 | 3 => 3 | 4 => 4 | 9 => 9 | 20 => 20 | 22 => 22 | 25 => 2 | n => n, fun | n => n⟩
theorem Tryz.grow_lays : Lays8.n4 Tryz.prog Tryz.grow_ren := {
  mixed := by kernel_rfl
  f4 := ⟨Tryz.f73.name, by kernel_rfl, Tryz.func73.trans (congrArg some (by kernel_rfl))⟩
  t0 := Tryz.underlying0
  a0 := Tryz.isAgg0
  z0 := Tryz.sizeOf0
  v0 := Tryz.zeroValue0
  t3 := Tryz.underlying3
  a3 := Tryz.isAgg3
  z3 := Tryz.sizeOf3
  v3 := Tryz.zeroValue3
  t4 := Tryz.underlying4
  a4 := Tryz.isAgg4
  z4 := Tryz.sizeOf4
  v4 := Tryz.zeroValue4
  t9 := Tryz.underlying9
  a9 := Tryz.isAgg9
  z9 := Tryz.sizeOf9
  v9 := Tryz.zeroValue9
  t20 := Tryz.underlying20
  a20 := Tryz.isAgg20
  z20 := Tryz.sizeOf20
  v20 := Tryz.zeroValue20
  t22 := Tryz.underlying22
  a22 := Tryz.isAgg22
  z22 := Tryz.sizeOf22
  v22 := Tryz.zeroValue22 }
end Go.Proofs
namespace Go.Proofs.YtgepejnooghjbaaGreat
open Go.RowKit
attribute [local go_sem ↓] Go.wp_at_zero Go.wp_at_succ

theorem own_ge {w : World} {base n size : Nat} {e : TypeId} {v : Value} {xs : List Value} (h : w.ownsRow base e size v n xs) {a : World} (ha : a.heap.size ≤ base) (r : Option Nat) : v.ownBlock = r ∨ v.ownBlock = none ∨ ∃ g, v.ownBlock = some g ∧ a.heap.size ≤ g := by
  rcases h.2 with ⟨rfl, _⟩ | ⟨g, cap, cur, rfl, hb, _⟩
  · exact .inr (.inl rfl)
  · exact .inr (.inr ⟨g, rfl, Nat.le_trans ha hb⟩)
theorem grow_new (n : Nat) (hn : n ≤ 1100000) (w : World) : Calls Tryz.prog 73 #[.slice none 0 0, .int .i64 (n : Int)] w fun e w' => ∃ A c, e = .returned (.slice A 0 c) ∧ w'.ownsRow w.heap.size 2 1 (.slice A 0 c) 0 [] ∧ w.grownBy w' none := by
  by_cases h0 : n = 0
  · subst h0
    refine (Any8.slices_Grow_room Tryz.grow_lays none 0 0 0 w (Nat.le_refl _) (by decide) (by decide) (Nat.le_refl _)).mono ?_
    rintro e w' ⟨rfl, rfl⟩
    exact ⟨none, 0, rfl, ⟨rfl, .inl ⟨rfl, rfl⟩⟩, gb_refl _ none⟩
  · obtain ⟨i1, hi1, hiz, his, hib⟩ := info_parts Tryz.info64
    refine (Any8.slices_Grow_grow Tryz.grow_lays i1 (.int .i64 0) hi1 hiz (by rw [his]; decide) none 0 0 n [] w (Nat.le_refl _) (by omega) (by rw [hib]; omega) (by omega) (by rw [his]; rfl) (fun _ => rfl) (by intro a h; cases h)).mono ?_
    rintro e w' ⟨rfl, rfl⟩
    obtain ⟨G, hG⟩ : ∃ G, G = grownCap w (0 + n) 0 (Tryz.grow_ren.t 25) := ⟨_, rfl⟩
    have hGn : 0 + n ≤ G := hG ▸ grownCap_ge w _ _ _
    have hGm : G ≤ maxLen := by rw [hG]; exact grownCap_le_maxLen w (0 + n) 0 _ (by unfold maxLen; omega)
    rw [← hG]
    refine ⟨_, _, rfl, ⟨rfl, .inr ⟨w.heap.size, G, _, rfl, Nat.le_refl _, heap_alloc_new w.drew _, Nat.zero_le _, hGm, ?_, by simp⟩⟩, gb_alloc (gb_drew (gb_refl w none)) _⟩
    simp [Builtin.zeroCells, Value.cells]
    omega
set_option maxHeartbeats 4000000 in
set_option maxRecDepth 100000 in
theorem concat_two (la lb : List Int) (w : World) (r B : Nat) (cA : Option Addr) (ca : Nat) (cB : Option Addr) (cb : Nat) (hl : la.length + lb.length ≤ 1000000) (hr : w.heap[r]? = some (.cells #[.slice cA la.length ca, .slice cB lb.length cb] 22 (0, 0))) (hB : B ≤ w.heap.size) (ha : Rd w B cA (i64s la)) (hb : Rd w B cB (i64s lb)) :
    Calls Tryz.prog 41 #[.slice (some ⟨r, 0, none⟩) 2 2] w fun e w' => ∃ A c, e = .returned (.slice A (la.length + lb.length) c) ∧ w'.ownsRow w.heap.size 2 1 (.slice A (la.length + lb.length) c) (la.length + lb.length) (i64s la ++ i64s lb) ∧ w.grownBy w' none := by
  obtain ⟨N, hN⟩ : ∃ N, N = la.length + lb.length := ⟨_, rfl⟩
  have e1 : IntKind.i64.wrap (0 + (la.length : Int)) = (la.length : Int) := by rw [IntKind.wrap_i64]; omega
  have e1' : IntKind.i64.wrap (la.length : Int) = (la.length : Int) := by rw [IntKind.wrap_i64]; omega
  have e2 : IntKind.i64.wrap ((la.length : Int) + (lb.length : Int)) = (N : Int) := by rw [IntKind.wrap_i64]; omega
  have n1 : ¬ (la.length : Int) < 0 := by omega
  have n2 : ¬ (N : Int) < 0 := by omega
  have HGR := hide (fun w2 => grow_new N (by omega) w2)
  have r0 : w.cell? ⟨r, 0, none⟩ = some (.slice cA la.length ca) := by rw [blk_cell hr]; rfl
  have r1 : w.cell? ⟨r, 1, none⟩ = some (.slice cB lb.length cb) := by rw [blk_cell hr]; rfl
  have HRK := hide hr
  have HRA := hide ha
  have HRB := hide hb
  have HBB := hide hB
  have HA1 : Hid ((i64s la).length = la.length * 1) := hide (by simp [i64s])
  have HB1 : Hid ((i64s lb).length = lb.length * 1) := hide (by simp [i64s])
  have HOA := hide (i64s_one la)
  have HOB := hide (i64s_one lb)
  have HM1 : Hid (0 + la.length ≤ maxLen) := hide (by unfold maxLen; omega)
  have HM2 : Hid (la.length + lb.length ≤ maxLen) := hide (by unfold maxLen; omega)
  have HY1 : Hid ((0 + la.length) * 8 ≤ 140737488355328) := hide (by omega)
  have HY2 : Hid ((la.length + lb.length) * 8 ≤ 140737488355328) := hide (by omega)
  obtain ⟨i1, hi1, hiz, his, hib⟩ := info_parts Tryz.info64
  have HI1 := hide hi1
  have HIZ := hide hiz
  have HIS := hide his
  have HIB := hide hib
  clear hi1 hiz his hib hr ha hb hB hl hN
  go_enter Tryz.func41, Tryz.ntmps41
  go_wp2_with fail
  go_loopw [3, 11] (fun s i wr => w = wr ∧ (s = .int .i64 0 ∧ i = .int .i64 0 ∨ s = .int .i64 (la.length : Int) ∧ i = .int .i64 1 ∨ s = .int .i64 (N : Int) ∧ i = .int .i64 2)) (fun _ i _ => 2 - (intOf i).toNat)
  case atStart => exact ⟨rfl, .inl ⟨rfl, rfl⟩⟩
  case round =>
    obtain ⟨rfl, ⟨rfl, rfl⟩ | ⟨rfl, rfl⟩ | ⟨rfl, rfl⟩⟩ := hrel
    · go_wp2_with fail
      go_roundw
      case rel => exact ⟨by first | trivial | rfl, .inr (.inl ⟨rfl, rfl⟩)⟩
      case measure => simp [intOf]
    · go_wp2_with fail
      go_roundw
      case rel => exact ⟨by first | trivial | rfl, .inr (.inr ⟨rfl, rfl⟩)⟩
      case measure => simp [intOf]
    · clear e1 e1' e2 n1 n2
      go_wp2_with (go_at_call 73; refine (HGR.out _).mono ?_; rintro e w2 ⟨A0, c0, rfl, ho2, hg2⟩; have HO2 := hide ho2; have HG2 := hide hg2; clear ho2 hg2)
      go_loopw [6, 27] (fun s i ws => (i = .int .i64 0 ∧ ws = w2 ∧ s = .slice A0 0 c0) ∨ (i = .int .i64 1 ∧ ∃ A c, s = .slice A la.length c ∧ ws.ownsRow w.heap.size 2 1 (.slice A la.length c) la.length (i64s la) ∧ w.grownBy ws none) ∨ (i = .int .i64 2 ∧ ∃ A c, s = .slice A (la.length + lb.length) c ∧ ws.ownsRow w.heap.size 2 1 (.slice A (la.length + lb.length) c) (la.length + lb.length) (i64s la ++ i64s lb) ∧ w.grownBy ws none)) (fun _ i _ => 2 - (intOf i).toNat)
      case atStart => exact .inl ⟨rfl, rfl, rfl⟩
      case round =>
        rcases hrel with ⟨rfl, rfl, rfl⟩ | ⟨rfl, A, c, rfl, ho, hg⟩ | ⟨rfl, A, c, rfl, ho, hg⟩
        · have r0 := cell_gb r0 HG2.out
          have HRD := hide (HRA.out.grown HG2.out HBB.out (by simp))
          have HSZ := hide HG2.out.size
          clear r1
          go_wp2_with (at_builtin; refine wpList_append_rd _ rfl (.tmp 31) (.tmp 32) 22 rfl w.heap.size 2 i1 (.int .i64 0) 1 8 Tryz.underlying22 HI1.out HIZ.out HIS.out HIB.out rfl (Nat.succ_pos 0) (.slice A0 0 c0) 0 [] rfl HO2.out B cA la.length ca (i64s la) rfl HA1.out HRD.out HOA.out HM1.out HY1.out HSZ.out ?_; intro v5 w5 ho5 hg5 _; rw [Nat.zero_add, List.nil_append] at ho5; obtain ⟨A5, c5, rfl, _⟩ := own_slice ho5; have HO5 := hide ho5; have HG5 := hide (gb_trans HG2.out hg5 (own_ge HO2.out (Nat.le_refl _) none)); clear ho5 hg5 r0)
          go_roundw
          case rel => exact .inr (.inl ⟨rfl, A5, c5, rfl, HO5.out, HG5.out⟩)
          case measure => simp [intOf]
        · have r1 := cell_gb r1 hg
          have HO := hide ho
          have HG := hide hg
          have HRD := hide (HRB.out.grown hg HBB.out (by simp))
          have HSZ := hide hg.size
          clear r0 ho hg
          go_wp2_with (at_builtin; refine wpList_append_rd _ rfl (.tmp 31) (.tmp 32) 22 rfl w.heap.size 2 i1 (.int .i64 0) 1 8 Tryz.underlying22 HI1.out HIZ.out HIS.out HIB.out rfl (Nat.succ_pos 0) (.slice A la.length c) la.length (i64s la) rfl HO.out B cB lb.length cb (i64s lb) rfl HB1.out HRD.out HOB.out HM2.out HY2.out HSZ.out ?_; intro v5 w5 ho5 hg5 _; obtain ⟨A5, c5, rfl, _⟩ := own_slice ho5; have HO5 := hide ho5; have HG5 := hide (gb_trans HG.out hg5 (own_ge HO.out (Nat.le_refl _) none)); clear ho5 hg5 r1)
          go_roundw
          case rel => exact .inr (.inr ⟨rfl, A5, c5, rfl, HO5.out, HG5.out⟩)
          case measure => simp [intOf]
        · have HO := hide ho
          have HG := hide hg
          clear ho hg r0 r1
          go_wp2_with fail
          exact bodyPost_ret (v := .slice A (la.length + lb.length) c) (by simp [results, Tryz.results41, go_sem]) rfl ⟨A, c, rfl, HO.out, HG.out⟩
end Go.Proofs.YtgepejnooghjbaaGreat

namespace Go.Proofs.YtgepejnooghjbaaGreat
open Go.RowKit
attribute [local go_sem ↓] Go.wp_at_zero Go.wp_at_succ

theorem seqT.count {x : Vl} (h : seqT x.t) (ht : x.tot ≤ 1100000) : x.count ≤ 1100000 := by
  obtain ⟨l1, l2, l3, l4⟩ := Vl.lens x ht
  rw [Vl.count_def]
  rcases h with (h | h | h | h) | h | h
  · rw [if_pos (.inl h)]; exact l1
  · rw [if_pos (.inr (.inl h))]; exact l1
  · rw [if_pos (.inr (.inr (.inl h)))]; exact l1
  · rw [if_pos (.inr (.inr (.inr h)))]; exact l1
  · rw [if_neg (by omega), if_pos h]; exact l2
  · rw [if_neg (by omega), if_neg (by omega), if_pos h]; exact l3
end Go.Proofs.YtgepejnooghjbaaGreat
