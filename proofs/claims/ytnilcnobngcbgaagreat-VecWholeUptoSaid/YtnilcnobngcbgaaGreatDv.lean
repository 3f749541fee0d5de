/-
  value.Null of ints.
-/
import Derived.Test.YtnilcnobngcbgaaGreatDh
import Derived.Test.YtnilcnobngcbgaaGreatVq
namespace Go.Proofs.YtnilcnobngcbgaaGreat
open Go.RowKit
attribute [local go_sem ↓] Go.wp_at_zero Go.wp_at_succ

set_option maxHeartbeats 2000000 in
set_option maxRecDepth 100000 in
theorem null2_any (w : World) : Calls Tryz.prog 41 #[.int .i64 2] w (NewV (.mk (-2) [-9223372036854775808] [] []) w) := by
  obtain ⟨wa, hwa⟩ : ∃ wa, wa = w.alloc (.cells #[.int .i64 0, .slice none 0 0, .slice none 0 0, .slice none 0 0] 26) := ⟨_, rfl⟩
  have hr : wa.heap[w.heap.size]? = some (.cells #[.int .i64 0, .slice none 0 0, .slice none 0 0, .slice none 0 0] 26 (0, 0)) := by rw [hwa]; exact heap_alloc_new w _
  have HR := hide hr
  have HG := hide (show w.grownBy wa none by rw [hwa]; exact gb_alloc (gb_refl w none) _)
  have HS := hide (show wa.heap.size = w.heap.size + 1 by rw [hwa]; simp)
  have HWE := hide hwa
  clear hr hwa
  go_enter Tryz.func41, Tryz.ntmps41
  go_wp2_with fail
  rw [← HWE.out]
  go_wp2_with (go_at_call 67; refine (atomI_any _ _).mono ?_; rintro e w1 ⟨nA, nc, sA, sc, lA, lc, f, he, ho, hn, hg1⟩; obtain rfl : e = .returned (.agg #[.int .i64 (-2), .slice nA 1 nc, .slice sA 0 sc, .slice lA 0 lc]) := he; have HO := hide ho; have HN := hide hn; have HG1 := hide (gb_trans HG.out hg1 (.inl rfl)); have hr2 := (hg1.block _ (blk_lt HR.out) (by simp)).trans HR.out; have HR2 := hide hr2; have z0 := blk_frozen hr2 0; have z1 := blk_frozen hr2 1; have z2 := blk_frozen hr2 2; have z3 := blk_frozen hr2 3; have y0 : w1.cell? ⟨w.heap.size, 0, none⟩ = some (.int .i64 0) := (by { rw [blk_cell hr2]; rfl }); have y1 : w1.cell? ⟨w.heap.size, 1, none⟩ = some (.slice none 0 0) := (by { rw [blk_cell hr2]; rfl }); have y2 : w1.cell? ⟨w.heap.size, 2, none⟩ = some (.slice none 0 0) := (by { rw [blk_cell hr2]; rfl }); have y3 : w1.cell? ⟨w.heap.size, 3, none⟩ = some (.slice none 0 0) := (by { rw [blk_cell hr2]; rfl }); clear ho hn hg1 hr2)
  have hb := put_four HR2.out (.int .i64 (-2)) (.slice nA 1 nc) (.slice sA 0 sc) (.slice lA 0 lc)
  have m0 : ((((w1.setCell ⟨w.heap.size, 0, none⟩ (.int .i64 (-2))).setCell ⟨w.heap.size, 1, none⟩ (.slice nA 1 nc)).setCell ⟨w.heap.size, 2, none⟩ (.slice sA 0 sc)).setCell ⟨w.heap.size, 3, none⟩ (.slice lA 0 lc)).cell? ⟨w.heap.size, 0, none⟩ = some (.int .i64 (-2)) := by rw [blk_cell hb]; rfl
  have m1 : ((((w1.setCell ⟨w.heap.size, 0, none⟩ (.int .i64 (-2))).setCell ⟨w.heap.size, 1, none⟩ (.slice nA 1 nc)).setCell ⟨w.heap.size, 2, none⟩ (.slice sA 0 sc)).setCell ⟨w.heap.size, 3, none⟩ (.slice lA 0 lc)).cell? ⟨w.heap.size, 1, none⟩ = some (.slice nA 1 nc) := by rw [blk_cell hb]; rfl
  have m2 : ((((w1.setCell ⟨w.heap.size, 0, none⟩ (.int .i64 (-2))).setCell ⟨w.heap.size, 1, none⟩ (.slice nA 1 nc)).setCell ⟨w.heap.size, 2, none⟩ (.slice sA 0 sc)).setCell ⟨w.heap.size, 3, none⟩ (.slice lA 0 lc)).cell? ⟨w.heap.size, 2, none⟩ = some (.slice sA 0 sc) := by rw [blk_cell hb]; rfl
  have m3 : ((((w1.setCell ⟨w.heap.size, 0, none⟩ (.int .i64 (-2))).setCell ⟨w.heap.size, 1, none⟩ (.slice nA 1 nc)).setCell ⟨w.heap.size, 2, none⟩ (.slice sA 0 sc)).setCell ⟨w.heap.size, 3, none⟩ (.slice lA 0 lc)).cell? ⟨w.heap.size, 3, none⟩ = some (.slice lA 0 lc) := by rw [blk_cell hb]; rfl
  refine bodyPost_ret (v := .agg #[.int .i64 (-2), .slice nA 1 nc, .slice sA 0 sc, .slice lA 0 lc]) (by simp [results, Tryz.results41, go_sem, m0, m1, m2, m3]) rfl ?_
  refine ⟨nA, nc, sA, sc, lA, lc, f, rfl, ?_, ⟨HN.out.1, fun b hb => ?_⟩, put_four_gb HG1.out (Nat.le_refl _) _ _ _ _⟩
  · exact VOw.keep _ _ _ HO.out fun b hm => put_four_other (by have := (HN.out.2 b hm).1; have := HS.out; omega) _ _ _ _
  · have h2 := HN.out.2 b hb
    have := HS.out
    refine ⟨by omega, ?_⟩
    simp [World.setCell]
    exact h2.2
end Go.Proofs.YtnilcnobngcbgaaGreat
