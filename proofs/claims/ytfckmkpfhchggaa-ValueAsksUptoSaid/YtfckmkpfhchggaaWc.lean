/-
  Compare: a vector of ints is below a table.
-/
import Derived.Test.YtfckmkpfhchggaaWb
import Derived.Deep.RegionHeld3
import Derived.Deep.DrawnRows
namespace Go.Proofs.Ytfckmkpfhchggaa
open Go.RowKit
attribute [local go_sem ↓] Go.wp_at_zero Go.wp_at_succ

theorem cmp28i (w : World) : Calls Try.prog 58 #[.int .i64 2, .int .i64 8] w fun e w' => e = .returned (.int .i64 (-1)) ∧ w = w' := cmpI_any 2 8 w

set_option maxHeartbeats 8000000 in
set_option maxRecDepth 100000 in
theorem cmp28_any (c1 c2 c3 d1 d2 d3 : Value) (w : World) : Calls Try.prog 29 #[.agg #[.int .i64 2, c1, c2, c3], .agg #[.int .i64 98, d1, d2, d3]] w fun e w' => e = .returned (.int .i64 (-1)) ∧ w.grownBy w' none := by
  obtain ⟨wa, hwa⟩ : ∃ wa, wa = (w.alloc (.cells #[.int .i64 2, c1, c2, c3] 26)).alloc (.cells #[.int .i64 98, d1, d2, d3] 26) := ⟨_, rfl⟩
  have hg : w.grownBy wa none := by rw [hwa]; exact gb_alloc (gb_alloc (gb_refl w none) _) _
  have hc := (C4.box w (.int .i64 2) c1 c2 c3 26).gb (gb_alloc (gb_refl _ none) (.cells #[.int .i64 98, d1, d2, d3] 26))
  have hc' := C4.box2 w (.cells #[.int .i64 2, c1, c2, c3] 26) (.int .i64 98) d1 d2 d3 26
  rw [← hwa] at hc hc'
  have q0 : wa.cell? ⟨w.heap.size, 0, none⟩ = some (.int .i64 2) := hc.c0
  have k0 : wa.cell? ⟨w.heap.size + 1, 0, none⟩ = some (.int .i64 98) := hc'.c0
  have HG := hide hg
  have HWE := hide hwa
  clear hc hc' hg hwa
  go_enter Try.func29, Try.ntmps29
  go_wp2_with fail
  rw [← HWE.out]
  go_region_held3 (fun w' => w'.cell? ⟨w.heap.size, 0, none⟩ = some (.int .i64 2) ∧ w'.cell? ⟨w.heap.size + 1, 0, none⟩ = some (.int .i64 98)) (first | exact ⟨q0, k0⟩ | go_keep)
    (first
      | (go_simp; go_at_call 59; with_reducible refine (rank2_any _).mono ?_; rintro e w1 ⟨rfl, rfl⟩)
      | (go_simp; go_at_call 59; with_reducible refine (rank98_any _).mono ?_; rintro e w1 ⟨rfl, rfl⟩)
      | (go_simp; go_at_call 58; with_reducible refine (cmp28i _).mono ?_; rintro e w1 ⟨rfl, rfl⟩))
  go_wp2_with fail
  go_ret
  exact ⟨rfl, gb_drew HG.out⟩
end Go.Proofs.Ytfckmkpfhchggaa
