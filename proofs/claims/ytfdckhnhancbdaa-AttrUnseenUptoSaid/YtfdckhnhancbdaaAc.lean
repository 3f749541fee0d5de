/-
  attr's compare; a column in memory; its count.
-/
import Derived.Test.YtfdckhnhancbdaaAa
import Derived.Test.YtfdckhnhancbdaaAb
namespace Go.Proofs.Ytfdckhnhancbdaa
open Go.RowKit
attribute [local go_sem ↓] Go.wp_at_zero Go.wp_at_succ

/-- How two elements stand to each other. -/
def cmpK (a b : Int × ByteArray) : Int := if cmpI a.1 b.1 = 0 then cmpS a.2 b.2 else cmpI a.1 b.1
set_option maxHeartbeats 1000000 in
theorem compare_any (a b : Int × ByteArray) (w : World) : Calls Try.prog 52 #[kagg a, kagg b] w fun e w' => e = .returned (.int .i64 (cmpK a b)) ∧ w.grownBy w' none := by
  have H1 := hide (fun w => cmp64_any a.1 b.1 w)
  have H2 := hide (fun w => cmpS_any a.2 b.2 w)
  have HG := hide (gb_alloc (gb_alloc (gb_refl w none) (.cells #[.int .i64 a.1, .string a.2] 89)) (.cells #[.int .i64 b.1, .string b.2] 89))
  unfold kagg
  by_cases h : cmpI a.1 b.1 = 0
  · have HE := hide (show cmpK a b = cmpS a.2 b.2 from if_pos h)
    rw [h] at H1
    clear h
    go_enter Try.func52, Try.ntmps52
    go_wp2_with (first
      | (go_at_call 70; refine (H1.out _).mono ?_; rintro e w1 ⟨rfl, rfl⟩)
      | (go_at_call 71; refine (H2.out _).mono ?_; rintro e w1 ⟨rfl, rfl⟩))
    go_ret
    exact ⟨by rw [HE.out]; rfl, HG.out⟩
  · have HE := hide (show cmpK a b = cmpI a.1 b.1 from if_neg h)
    have h1 : (cmpI a.1 b.1 != 0) = true := by simp [h]
    generalize cmpI a.1 b.1 = c at *
    have h2 : ¬ c = 0 := h
    go_enter Try.func52, Try.ntmps52
    go_wp2_with (first
      | (go_at_call 70; refine (H1.out _).mono ?_; rintro e w1 ⟨rfl, rfl⟩)
      | (go_at_call 71; refine (H2.out _).mono ?_; rintro e w1 ⟨rfl, rfl⟩))
    go_ret
    exact ⟨by rw [HE.out]; rfl, HG.out⟩
end Go.Proofs.Ytfdckhnhancbdaa
