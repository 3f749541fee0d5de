/-
  vec.like, vec.rule.do of ints and vectors of ints.
-/
import Derived.Test.YtnilcnobngcbgaaGreatDg
namespace Go.Proofs.YtnilcnobngcbgaaGreat
open Go.RowKit
attribute [local go_sem ↓] Go.wp_at_zero Go.wp_at_succ

/-- Four cells of a value written over. -/
theorem put_four {w : World} {g : Nat} {c0 c1 c2 c3 : Value} {t : TypeId} (h : w.heap[g]? = some (.cells #[c0, c1, c2, c3] t (0, 0))) (u0 u1 u2 u3 : Value) :
    ((((w.setCell ⟨g, 0, none⟩ u0).setCell ⟨g, 1, none⟩ u1).setCell ⟨g, 2, none⟩ u2).setCell ⟨g, 3, none⟩ u3).heap[g]? = some (.cells #[u0, u1, u2, u3] t (0, 0)) := by
  rw [blk_set (blk_set (blk_set (blk_set h 0 _) 1 _) 2 _) 3 _]
  rfl
theorem put_four_gb {w0 w : World} {g : Nat} (h : w0.grownBy w none) (hg : w0.heap.size ≤ g) (u0 u1 u2 u3 : Value) :
    w0.grownBy ((((w.setCell ⟨g, 0, none⟩ u0).setCell ⟨g, 1, none⟩ u1).setCell ⟨g, 2, none⟩ u2).setCell ⟨g, 3, none⟩ u3) none :=
  gb_setCell (gb_setCell (gb_setCell (gb_setCell h (.inr hg) _) (.inr hg) _) (.inr hg) _) (.inr hg) _
theorem put_four_other {w : World} {g i : Nat} (h : i ≠ g) (u0 u1 u2 u3 : Value) :
    ((((w.setCell ⟨g, 0, none⟩ u0).setCell ⟨g, 1, none⟩ u1).setCell ⟨g, 2, none⟩ u2).setCell ⟨g, 3, none⟩ u3).heap[i]? = w.heap[i]? := by
  have k : ∀ (w : World) (j : Nat) (u : Value), (w.setCell ⟨g, j, none⟩ u).heap[i]? = w.heap[i]? := fun w j u => Below.heap_setCell w ⟨g, j, none⟩ u i (fun e => h e)
  rw [k, k, k, k]

/-- What 'like' gives. -/
def likeT (t0 t : Int) : Int := if atomT t0 = true then -t else t
set_option maxHeartbeats 2000000 in
set_option maxRecDepth 100000 in
theorem like_any (t0 t : Int) (c1 c2 c3 nv : Value) (ht : -100 ≤ t ∧ t ≤ 100) (hnv : ∃ A n c, nv = .slice A n c) (w : World) :
    Calls Tryz.prog 85 #[.agg #[.int .i64 t0, c1, c2, c3], .int .i64 t, nv] w fun e w' => e = .returned (.agg #[.int .i64 (likeT t0 t), nv, .slice none 0 0, .slice none 0 0]) ∧ w.grownBy w' none := by
  obtain ⟨nA, nn, nc, rfl⟩ := hnv
  obtain ⟨wa, hwa⟩ : ∃ wa, wa = (w.alloc (.cells #[.int .i64 t0, c1, c2, c3] 26)).alloc (.cells #[.int .i64 0, .slice none 0 0, .slice none 0 0, .slice none 0 0] 26) := ⟨_, rfl⟩
  have hg1 : w.grownBy (w.alloc (.cells #[.int .i64 t0, c1, c2, c3] 26)) none := gb_alloc (gb_refl w none) _
  have hp : wa.heap[w.heap.size]? = some (.cells #[.int .i64 t0, c1, c2, c3] 26 (0, 0)) := by
    rw [hwa]
    exact ((gb_alloc (gb_refl (w.alloc (.cells #[.int .i64 t0, c1, c2, c3] 26)) none) _).block _ (by simp) (by simp)).trans (heap_alloc_new w _)
  have hr : wa.heap[w.heap.size + 1]? = some (.cells #[.int .i64 0, .slice none 0 0, .slice none 0 0, .slice none 0 0] 26 (0, 0)) := by
    have := heap_alloc_new (w.alloc (.cells #[.int .i64 t0, c1, c2, c3] 26)) (.cells #[.int .i64 0, .slice none 0 0, .slice none 0 0, .slice none 0 0] 26)
    rw [World.size_alloc] at this
    rw [hwa]
    exact this
  have HG := hide (show w.grownBy wa none by rw [hwa]; exact gb_alloc hg1 _)
  have HR := hide hr
  have x0 : wa.cell? ⟨w.heap.size, 0, none⟩ = some (.int .i64 t0) := by rw [blk_cell hp]; rfl
  have x1 : wa.cell? ⟨w.heap.size, 1, none⟩ = some c1 := by rw [blk_cell hp]; rfl
  have x2 : wa.cell? ⟨w.heap.size, 2, none⟩ = some c2 := by rw [blk_cell hp]; rfl
  have x3 : wa.cell? ⟨w.heap.size, 3, none⟩ = some c3 := by rw [blk_cell hp]; rfl
  have HW := hide hwa
  have hn : IntKind.i64.wrap (-t) = -t := by rw [IntKind.wrap_i64]; omega
  clear hp hr hg1 hwa ht
  cases ha : atomT t0
  · have HL := hide (show likeT t0 t = t by unfold likeT; rw [ha]; rfl)
    skip
    go_enter Tryz.func85, Tryz.ntmps85
    go_wp2_with fail
    rw [← HW.out]
    go_wp2_with (go_at_call 82; refine (isAtom_any _ _ _ _ _).mono ?_; rintro e w1 ⟨rfl, hg1⟩; have HG1 := hide (gb_trans HG.out hg1 (.inl rfl)); have hr2 := (hg1.block _ (blk_lt HR.out) (by simp)).trans HR.out; have HR2 := hide hr2; have z0 := blk_frozen hr2 0; have z1 := blk_frozen hr2 1; have z2 := blk_frozen hr2 2; have z3 := blk_frozen hr2 3; have y0 : w1.cell? ⟨w.heap.size + 1, 0, none⟩ = some (.int .i64 0) := (by { rw [blk_cell hr2]; rfl }); have y1 : w1.cell? ⟨w.heap.size + 1, 1, none⟩ = some (.slice none 0 0) := (by { rw [blk_cell hr2]; rfl }); have y2 : w1.cell? ⟨w.heap.size + 1, 2, none⟩ = some (.slice none 0 0) := (by { rw [blk_cell hr2]; rfl }); have y3 : w1.cell? ⟨w.heap.size + 1, 3, none⟩ = some (.slice none 0 0) := (by { rw [blk_cell hr2]; rfl }); clear hg1 hr2)
    have hb := put_four HR2.out (.int .i64 (t)) (.slice nA nn nc) (.slice none 0 0) (.slice none 0 0)
    have m0 : ((((w1.setCell ⟨w.heap.size + 1, 0, none⟩ (.int .i64 (t))).setCell ⟨w.heap.size + 1, 1, none⟩ (.slice nA nn nc)).setCell ⟨w.heap.size + 1, 2, none⟩ (.slice none 0 0)).setCell ⟨w.heap.size + 1, 3, none⟩ (.slice none 0 0)).cell? ⟨w.heap.size + 1, 0, none⟩ = some (.int .i64 (t)) := by rw [blk_cell hb]; rfl
    have m1 : ((((w1.setCell ⟨w.heap.size + 1, 0, none⟩ (.int .i64 (t))).setCell ⟨w.heap.size + 1, 1, none⟩ (.slice nA nn nc)).setCell ⟨w.heap.size + 1, 2, none⟩ (.slice none 0 0)).setCell ⟨w.heap.size + 1, 3, none⟩ (.slice none 0 0)).cell? ⟨w.heap.size + 1, 1, none⟩ = some (.slice nA nn nc) := by rw [blk_cell hb]; rfl
    have m2 : ((((w1.setCell ⟨w.heap.size + 1, 0, none⟩ (.int .i64 (t))).setCell ⟨w.heap.size + 1, 1, none⟩ (.slice nA nn nc)).setCell ⟨w.heap.size + 1, 2, none⟩ (.slice none 0 0)).setCell ⟨w.heap.size + 1, 3, none⟩ (.slice none 0 0)).cell? ⟨w.heap.size + 1, 2, none⟩ = some (.slice none 0 0) := by rw [blk_cell hb]; rfl
    have m3 : ((((w1.setCell ⟨w.heap.size + 1, 0, none⟩ (.int .i64 (t))).setCell ⟨w.heap.size + 1, 1, none⟩ (.slice nA nn nc)).setCell ⟨w.heap.size + 1, 2, none⟩ (.slice none 0 0)).setCell ⟨w.heap.size + 1, 3, none⟩ (.slice none 0 0)).cell? ⟨w.heap.size + 1, 3, none⟩ = some (.slice none 0 0) := by rw [blk_cell hb]; rfl
    refine bodyPost_ret (v := .agg #[.int .i64 (t), .slice nA nn nc, .slice none 0 0, .slice none 0 0]) (by simp [results, Tryz.results85, go_sem, m0, m1, m2, m3]) rfl ⟨by rw [HL.out], put_four_gb HG1.out (Nat.le_succ _) _ _ _ _⟩
  · have HL := hide (show likeT t0 t = -t by unfold likeT; rw [ha]; rfl)
    skip
    go_enter Tryz.func85, Tryz.ntmps85
    go_wp2_with fail
    rw [← HW.out]
    go_wp2_with (go_at_call 82; refine (isAtom_any _ _ _ _ _).mono ?_; rintro e w1 ⟨rfl, hg1⟩; have HG1 := hide (gb_trans HG.out hg1 (.inl rfl)); have hr2 := (hg1.block _ (blk_lt HR.out) (by simp)).trans HR.out; have HR2 := hide hr2; have z0 := blk_frozen hr2 0; have z1 := blk_frozen hr2 1; have z2 := blk_frozen hr2 2; have z3 := blk_frozen hr2 3; have y0 : w1.cell? ⟨w.heap.size + 1, 0, none⟩ = some (.int .i64 0) := (by { rw [blk_cell hr2]; rfl }); have y1 : w1.cell? ⟨w.heap.size + 1, 1, none⟩ = some (.slice none 0 0) := (by { rw [blk_cell hr2]; rfl }); have y2 : w1.cell? ⟨w.heap.size + 1, 2, none⟩ = some (.slice none 0 0) := (by { rw [blk_cell hr2]; rfl }); have y3 : w1.cell? ⟨w.heap.size + 1, 3, none⟩ = some (.slice none 0 0) := (by { rw [blk_cell hr2]; rfl }); clear hg1 hr2)
    have hb := put_four HR2.out (.int .i64 (-t)) (.slice nA nn nc) (.slice none 0 0) (.slice none 0 0)
    have m0 : ((((w1.setCell ⟨w.heap.size + 1, 0, none⟩ (.int .i64 (-t))).setCell ⟨w.heap.size + 1, 1, none⟩ (.slice nA nn nc)).setCell ⟨w.heap.size + 1, 2, none⟩ (.slice none 0 0)).setCell ⟨w.heap.size + 1, 3, none⟩ (.slice none 0 0)).cell? ⟨w.heap.size + 1, 0, none⟩ = some (.int .i64 (-t)) := by rw [blk_cell hb]; rfl
    have m1 : ((((w1.setCell ⟨w.heap.size + 1, 0, none⟩ (.int .i64 (-t))).setCell ⟨w.heap.size + 1, 1, none⟩ (.slice nA nn nc)).setCell ⟨w.heap.size + 1, 2, none⟩ (.slice none 0 0)).setCell ⟨w.heap.size + 1, 3, none⟩ (.slice none 0 0)).cell? ⟨w.heap.size + 1, 1, none⟩ = some (.slice nA nn nc) := by rw [blk_cell hb]; rfl
    have m2 : ((((w1.setCell ⟨w.heap.size + 1, 0, none⟩ (.int .i64 (-t))).setCell ⟨w.heap.size + 1, 1, none⟩ (.slice nA nn nc)).setCell ⟨w.heap.size + 1, 2, none⟩ (.slice none 0 0)).setCell ⟨w.heap.size + 1, 3, none⟩ (.slice none 0 0)).cell? ⟨w.heap.size + 1, 2, none⟩ = some (.slice none 0 0) := by rw [blk_cell hb]; rfl
    have m3 : ((((w1.setCell ⟨w.heap.size + 1, 0, none⟩ (.int .i64 (-t))).setCell ⟨w.heap.size + 1, 1, none⟩ (.slice nA nn nc)).setCell ⟨w.heap.size + 1, 2, none⟩ (.slice none 0 0)).setCell ⟨w.heap.size + 1, 3, none⟩ (.slice none 0 0)).cell? ⟨w.heap.size + 1, 3, none⟩ = some (.slice none 0 0) := by rw [blk_cell hb]; rfl
    refine bodyPost_ret (v := .agg #[.int .i64 (-t), .slice nA nn nc, .slice none 0 0, .slice none 0 0]) (by simp [results, Tryz.results85, go_sem, m0, m1, m2, m3]) rfl ⟨by rw [HL.out], put_four_gb HG1.out (Nat.le_succ _) _ _ _ _⟩
end Go.Proofs.YtnilcnobngcbgaaGreat
