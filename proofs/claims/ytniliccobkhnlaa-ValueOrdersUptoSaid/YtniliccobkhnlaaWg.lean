/-
  The document's own fields, symbol, many, long.
-/
import Derived.Test.YtniliccobkhnlaaWf
namespace Go.Proofs.Ytniliccobkhnlaa
open Go.RowKit
attribute [local go_sem ↓] Go.wp_at_zero Go.wp_at_succ

def fieldsT (t : Int) : Bool × Bool × Bool × Bool :=
  if rAbs t = 3 then (false, true, false, true) else if t ≠ 0 ∧ 1 ≤ rAbs t ∧ rAbs t ≤ 5 then (true, false, false, true) else if t = 0 ∨ t = 99 then (false, false, true, true)
  else if t = 98 then (false, true, true, true) else if t = 100 then (false, true, false, true) else (false, false, false, decide (t = 101))
def fieldsR (r : Bool × Bool × Bool × Bool) : Value := .tuple #[.bool r.1, .bool r.2.1, .bool r.2.2.1, .bool r.2.2.2]

set_option maxHeartbeats 8000000 in
set_option maxRecDepth 100000 in
theorem rFields_any (t : Int) (w : World) : Calls Try.prog 70 #[.int .i64 t] w fun e w' => e = .returned (fieldsR (fieldsT t)) ∧ w = w' := by
  have HA := hide (fun w2 => rAbs_any t w2)
  have HD := hide (show fieldsT t = if rAbs t = 3 then (false, true, false, true) else if t ≠ 0 ∧ 1 ≤ rAbs t ∧ rAbs t ≤ 5 then (true, false, false, true) else if t = 0 ∨ t = 99 then (false, false, true, true) else if t = 98 then (false, true, true, true) else if t = 100 then (false, true, false, true) else (false, false, false, decide (t = 101)) from rfl)
  have h00 : t = 0 → rAbs t = 0 := by intro h; subst h; rfl
  generalize rAbs t = a at *
  generalize fieldsT t = r at *
  by_cases h1 : a = 3
  · rw [if_pos h1] at HD
    have e1 := int_beq_t h1
    rw [HD.out]
    clear h1 HD h00
    go_enter Try.func70, Try.ntmps70
    go_wp2_with (go_at_call 53; refine (HA.out _).mono ?_; rintro e w1 ⟨rfl, rfl⟩)
    refine bodyPost_ret (v := .tuple #[.bool false, .bool true, .bool false, .bool true]) (by simp [results, Try.results70, go_sem]) rfl ⟨rfl, rfl⟩
  rw [if_neg h1] at HD
  have e1 := int_beq_f h1
  clear h1
  by_cases h2 : t ≠ 0 ∧ 1 ≤ a ∧ a ≤ 5
  · rw [if_pos h2] at HD
    rw [HD.out]
    have e2 := int_bne_f h2.1
    have h3 := h2.2.1
    have h4 := h2.2.2
    clear h2 HD h00
    go_enter Try.func70, Try.ntmps70
    go_wp2_with (go_at_call 53; refine (HA.out _).mono ?_; rintro e w1 ⟨rfl, rfl⟩)
    refine bodyPost_ret (v := .tuple #[.bool true, .bool false, .bool false, .bool true]) (by simp [results, Try.results70, go_sem]) rfl ⟨rfl, rfl⟩
  rw [if_neg h2] at HD
  by_cases h0 : t = 0
  · rw [if_pos (.inl h0)] at HD
    rw [HD.out]
    have ha := h00 h0
    subst ha
    subst h0
    clear h2 HD h00 e1
    go_enter Try.func70, Try.ntmps70
    go_wp2_with (go_at_call 53; refine (HA.out _).mono ?_; rintro e w1 ⟨rfl, rfl⟩)
    refine bodyPost_ret (v := .tuple #[.bool false, .bool false, .bool true, .bool true]) (by simp [results, Try.results70, go_sem]) rfl ⟨rfl, rfl⟩
  have e2 := int_bne_f h0
  have e0 := int_beq_f h0
  by_cases h3 : 1 ≤ a
  · have h4 : 5 < a := by
      by_cases h5 : a ≤ 5
      · exact absurd ⟨h0, h3, h5⟩ h2
      · omega
    clear h2 h00
    by_cases h5 : t = 99
    · rw [if_pos (.inr h5)] at HD
      rw [HD.out]
      have e5 := int_beq_t h5
      clear h5 HD h0
      go_enter Try.func70, Try.ntmps70
      go_wp2_with (go_at_call 53; refine (HA.out _).mono ?_; rintro e w1 ⟨rfl, rfl⟩)
      refine bodyPost_ret (v := .tuple #[.bool false, .bool false, .bool true, .bool true]) (by simp [results, Try.results70, go_sem]) rfl ⟨rfl, rfl⟩
    rw [if_neg (by simp [h0, h5])] at HD
    have e5 := int_beq_f h5
    by_cases h6 : t = 98
    · rw [if_pos h6] at HD
      rw [HD.out]
      have e6 := int_beq_t h6
      clear h5 h6 HD h0
      go_enter Try.func70, Try.ntmps70
      go_wp2_with (go_at_call 53; refine (HA.out _).mono ?_; rintro e w1 ⟨rfl, rfl⟩)
      refine bodyPost_ret (v := .tuple #[.bool false, .bool true, .bool true, .bool true]) (by simp [results, Try.results70, go_sem]) rfl ⟨rfl, rfl⟩
    rw [if_neg h6] at HD
    have e6 := int_beq_f h6
    by_cases h7 : t = 100
    · rw [if_pos h7] at HD
      rw [HD.out]
      have e7 := int_beq_t h7
      clear h5 h6 h7 HD h0
      go_enter Try.func70, Try.ntmps70
      go_wp2_with (go_at_call 53; refine (HA.out _).mono ?_; rintro e w1 ⟨rfl, rfl⟩)
      refine bodyPost_ret (v := .tuple #[.bool false, .bool true, .bool false, .bool true]) (by simp [results, Try.results70, go_sem]) rfl ⟨rfl, rfl⟩
    rw [if_neg h7] at HD
    have e7 := int_beq_f h7
    by_cases h8 : t = 101
    · rw [decide_eq_true h8] at HD
      rw [HD.out]
      have e8 := int_beq_t h8
      clear h5 h6 h7 h8 HD h0
      go_enter Try.func70, Try.ntmps70
      go_wp2_with (go_at_call 53; refine (HA.out _).mono ?_; rintro e w1 ⟨rfl, rfl⟩)
      refine bodyPost_ret (v := .tuple #[.bool false, .bool false, .bool false, .bool true]) (by simp [results, Try.results70, go_sem]) rfl ⟨rfl, rfl⟩
    rw [decide_eq_false h8] at HD
    rw [HD.out]
    have e8 := int_beq_f h8
    clear h5 h6 h7 h8 HD h0
    go_enter Try.func70, Try.ntmps70
    go_wp2_with (go_at_call 53; refine (HA.out _).mono ?_; rintro e w1 ⟨rfl, rfl⟩)
    refine bodyPost_ret (v := .tuple #[.bool false, .bool false, .bool false, .bool false]) (by simp [results, Try.results70, go_sem]) rfl ⟨rfl, rfl⟩
  · have h4 : a < 1 := by omega
    clear h2 h00 h3
    by_cases h5 : t = 99
    · rw [if_pos (.inr h5)] at HD
      rw [HD.out]
      have e5 := int_beq_t h5
      clear h5 HD h0
      go_enter Try.func70, Try.ntmps70
      go_wp2_with (go_at_call 53; refine (HA.out _).mono ?_; rintro e w1 ⟨rfl, rfl⟩)
      refine bodyPost_ret (v := .tuple #[.bool false, .bool false, .bool true, .bool true]) (by simp [results, Try.results70, go_sem]) rfl ⟨rfl, rfl⟩
    rw [if_neg (by simp [h0, h5])] at HD
    have e5 := int_beq_f h5
    by_cases h6 : t = 98
    · rw [if_pos h6] at HD
      rw [HD.out]
      have e6 := int_beq_t h6
      clear h5 h6 HD h0
      go_enter Try.func70, Try.ntmps70
      go_wp2_with (go_at_call 53; refine (HA.out _).mono ?_; rintro e w1 ⟨rfl, rfl⟩)
      refine bodyPost_ret (v := .tuple #[.bool false, .bool true, .bool true, .bool true]) (by simp [results, Try.results70, go_sem]) rfl ⟨rfl, rfl⟩
    rw [if_neg h6] at HD
    have e6 := int_beq_f h6
    by_cases h7 : t = 100
    · rw [if_pos h7] at HD
      rw [HD.out]
      have e7 := int_beq_t h7
      clear h5 h6 h7 HD h0
      go_enter Try.func70, Try.ntmps70
      go_wp2_with (go_at_call 53; refine (HA.out _).mono ?_; rintro e w1 ⟨rfl, rfl⟩)
      refine bodyPost_ret (v := .tuple #[.bool false, .bool true, .bool false, .bool true]) (by simp [results, Try.results70, go_sem]) rfl ⟨rfl, rfl⟩
    rw [if_neg h7] at HD
    have e7 := int_beq_f h7
    by_cases h8 : t = 101
    · rw [decide_eq_true h8] at HD
      rw [HD.out]
      have e8 := int_beq_t h8
      clear h5 h6 h7 h8 HD h0
      go_enter Try.func70, Try.ntmps70
      go_wp2_with (go_at_call 53; refine (HA.out _).mono ?_; rintro e w1 ⟨rfl, rfl⟩)
      refine bodyPost_ret (v := .tuple #[.bool false, .bool false, .bool false, .bool true]) (by simp [results, Try.results70, go_sem]) rfl ⟨rfl, rfl⟩
    rw [decide_eq_false h8] at HD
    rw [HD.out]
    have e8 := int_beq_f h8
    clear h5 h6 h7 h8 HD h0
    go_enter Try.func70, Try.ntmps70
    go_wp2_with (go_at_call 53; refine (HA.out _).mono ?_; rintro e w1 ⟨rfl, rfl⟩)
    refine bodyPost_ret (v := .tuple #[.bool false, .bool false, .bool false, .bool false]) (by simp [results, Try.results70, go_sem]) rfl ⟨rfl, rfl⟩
end Go.Proofs.Ytniliccobkhnlaa
