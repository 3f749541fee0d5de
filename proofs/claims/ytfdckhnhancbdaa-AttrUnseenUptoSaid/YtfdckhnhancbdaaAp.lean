/-
  attr's calls on a nil Index.
-/
import Derived.Test.YtfdckhnhancbdaaAo
namespace Go.Proofs.Ytfdckhnhancbdaa
open Go.RowKit
attribute [local go_sem ↓] Go.wp_at_zero Go.wp_at_succ

set_option maxHeartbeats 1000000 in
set_option maxRecDepth 100000 in
theorem find_nil (x0 x1 x2 x3 : Value) (w : World) : Calls Try.prog 23 #[.pointer none, .agg #[x0, x1, x2, x3]] w fun e w' => e = .returned (.tuple #[.slice none 0 0, .int .i64 7]) ∧ w.grownBy w' none := by
  go_enter Try.func23, Try.ntmps23
  go_wp2_with fail
  go_ret2
  exact ⟨rfl, by first | exact gb_refl w none | exact gb_alloc (gb_refl w none) _ | exact gb_alloc (gb_alloc (gb_refl w none) _) _ | exact gb_alloc (gb_alloc (gb_alloc (gb_refl w none) _) _) _⟩
set_option maxHeartbeats 1000000 in
set_option maxRecDepth 100000 in
theorem first_nil (x0 x1 x2 x3 : Value) (w : World) : Calls Try.prog 27 #[.pointer none, .agg #[x0, x1, x2, x3]] w fun e w' => e = .returned (.tuple #[.int .i64 0, .int .i64 7]) ∧ w.grownBy w' none := by
  go_enter Try.func27, Try.ntmps27
  go_wp2_with fail
  go_ret2
  exact ⟨rfl, by first | exact gb_refl w none | exact gb_alloc (gb_refl w none) _ | exact gb_alloc (gb_alloc (gb_refl w none) _) _ | exact gb_alloc (gb_alloc (gb_alloc (gb_refl w none) _) _) _⟩
set_option maxHeartbeats 1000000 in
set_option maxRecDepth 100000 in
theorem range_nil (w : World) : Calls Try.prog 24 #[.pointer none, .pointer none, .pointer none] w fun e w' => e = .returned (.tuple #[.slice none 0 0, .int .i64 7]) ∧ w.grownBy w' none := by
  go_enter Try.func24, Try.ntmps24
  go_wp2_with fail
  go_ret2
  exact ⟨rfl, by first | exact gb_refl w none | exact gb_alloc (gb_refl w none) _ | exact gb_alloc (gb_alloc (gb_refl w none) _) _ | exact gb_alloc (gb_alloc (gb_alloc (gb_refl w none) _) _) _⟩
set_option maxHeartbeats 1000000 in
set_option maxRecDepth 100000 in
theorem groups_nil (w : World) : Calls Try.prog 28 #[.pointer none] w fun e w' => e = .returned (.tuple #[.agg #[.int .i64 0, .slice none 0 0, .slice none 0 0, .slice none 0 0], .slice none 0 0]) ∧ w.grownBy w' none := by
  go_enter Try.func28, Try.ntmps28
  go_wp2_with fail
  refine bodyPost_ret (v := .tuple #[.agg #[.int .i64 0, .slice none 0 0, .slice none 0 0, .slice none 0 0], .slice none 0 0]) (by simp [results, Try.results28, go_sem]) rfl ⟨rfl, by first | exact gb_refl w none | exact gb_alloc (gb_refl w none) _ | exact gb_alloc (gb_alloc (gb_refl w none) _) _ | exact gb_alloc (gb_alloc (gb_alloc (gb_refl w none) _) _) _⟩
set_option maxHeartbeats 1000000 in
set_option maxRecDepth 100000 in
theorem append_nil (x0 x1 x2 x3 : Value) (w : World) : Calls Try.prog 15 #[.pointer none, .agg #[x0, x1, x2, x3]] w fun e w' => e = .returned (.tuple #[.bool false, .int .i64 7]) ∧ w.grownBy w' none := by
  go_enter Try.func15, Try.ntmps15
  go_wp2_with fail
  go_ret2
  exact ⟨rfl, by first | exact gb_refl w none | exact gb_alloc (gb_refl w none) _ | exact gb_alloc (gb_alloc (gb_refl w none) _) _ | exact gb_alloc (gb_alloc (gb_alloc (gb_refl w none) _) _) _⟩
set_option maxHeartbeats 1000000 in
set_option maxRecDepth 100000 in
theorem set_nil (x0 x1 x2 x3 : Value) (w : World) : Calls Try.prog 17 #[.pointer none, .int .i64 0, .agg #[x0, x1, x2, x3]] w fun e w' => e = .returned (.tuple #[.bool false, .int .i64 7]) ∧ w.grownBy w' none := by
  go_enter Try.func17, Try.ntmps17
  go_wp2_with fail
  go_ret2
  exact ⟨rfl, by first | exact gb_refl w none | exact gb_alloc (gb_refl w none) _ | exact gb_alloc (gb_alloc (gb_refl w none) _) _ | exact gb_alloc (gb_alloc (gb_alloc (gb_refl w none) _) _) _⟩
set_option maxHeartbeats 1000000 in
set_option maxRecDepth 100000 in
theorem kind_nil (w : World) : Calls Try.prog 20 #[.pointer none] w fun e w' => e = .returned (.int .i64 0) ∧ w.grownBy w' none := by
  go_enter Try.func20, Try.ntmps20
  go_wp2_with fail
  go_ret
  exact ⟨rfl, by first | exact gb_refl w none | exact gb_alloc (gb_refl w none) _ | exact gb_alloc (gb_alloc (gb_refl w none) _) _ | exact gb_alloc (gb_alloc (gb_alloc (gb_refl w none) _) _) _⟩
set_option maxHeartbeats 1000000 in
set_option maxRecDepth 100000 in
theorem vector_nil (w : World) : Calls Try.prog 21 #[.pointer none] w fun e w' => e = .returned (.agg #[.int .i64 0, .slice none 0 0, .slice none 0 0, .slice none 0 0]) ∧ w.grownBy w' none := by
  go_enter Try.func21, Try.ntmps21
  go_wp2_with fail
  refine bodyPost_ret (v := .agg #[.int .i64 0, .slice none 0 0, .slice none 0 0, .slice none 0 0]) (by simp [results, Try.results21, go_sem]) rfl ⟨rfl, by first | exact gb_refl w none | exact gb_alloc (gb_refl w none) _ | exact gb_alloc (gb_alloc (gb_refl w none) _) _ | exact gb_alloc (gb_alloc (gb_alloc (gb_refl w none) _) _) _⟩
end Go.Proofs.Ytfdckhnhancbdaa
