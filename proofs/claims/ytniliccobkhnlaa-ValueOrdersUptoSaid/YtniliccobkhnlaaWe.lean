/-
  The document's own questions: abs, IsAtom, IsVector, column, Count, fields.
-/
import Derived.Test.YtniliccobkhnlaaVh
namespace Go.Proofs.Ytniliccobkhnlaa
open Go.RowKit
attribute [local go_sem ↓] Go.wp_at_zero Go.wp_at_succ

def rAbs (t : Int) : Int := if t < 0 ∧ -5 ≤ t then -t else t
def rAtom (t : Int) : Bool := decide (t < 0) && decide (-5 ≤ t)
def rVec (t : Int) : Bool := decide (1 ≤ t) && decide (t ≤ 5)
def rCol (t : Int) : Bool := rVec t || decide (t = 0)

set_option maxHeartbeats 4000000 in
set_option maxRecDepth 100000 in
theorem rAbs_any (t : Int) (w : World) : Calls Try.prog 53 #[.int .i64 t] w fun e w' => e = .returned (.int .i64 (rAbs t)) ∧ w = w' := by
  by_cases h1 : t < 0
  · by_cases h2 : -5 ≤ t
    · have h3 : t = -1 ∨ t = -2 ∨ t = -3 ∨ t = -4 ∨ t = -5 := by omega
      rcases h3 with rfl | rfl | rfl | rfl | rfl <;>
      · clear h1 h2
        go_enter Try.func53, Try.ntmps53
        go_wp2_with fail
        go_ret
        exact ⟨rfl, rfl⟩
    · have HA := hide (show rAbs t = t by unfold rAbs; rw [if_neg (by omega)])
      rw [HA.out]
      have h2' : t < -5 := by omega
      clear h2
      go_enter Try.func53, Try.ntmps53
      go_wp2_with fail
      go_ret
      exact ⟨rfl, rfl⟩
  · have HA := hide (show rAbs t = t by unfold rAbs; rw [if_neg (by omega)])
    rw [HA.out]
    have h2' : 0 ≤ t := by omega
    clear h1
    go_enter Try.func53, Try.ntmps53
    go_wp2_with fail
    go_ret
    exact ⟨rfl, rfl⟩
set_option maxHeartbeats 4000000 in
set_option maxRecDepth 100000 in
theorem rAtom_any (t : Int) (c1 c2 c3 : Value) (w : World) : Calls Try.prog 18 #[.agg #[.int .i64 t, c1, c2, c3]] w fun e w' => e = .returned (.bool (rAtom t)) ∧ w.grownBy w' none := by
  obtain ⟨wa, hwa⟩ : ∃ wa, wa = w.alloc (.cells #[.int .i64 t, c1, c2, c3] 26) := ⟨_, rfl⟩
  have hc := (C4.box w (.int .i64 t) c1 c2 c3 26).c0
  rw [← hwa] at hc
  have HG := hide (show w.grownBy wa none by rw [hwa]; exact gb_alloc (gb_refl w none) _)
  have HWE := hide hwa
  clear hwa
  by_cases h1 : t < 0
  · by_cases h2 : -5 ≤ t
    · have HA := hide (show rAtom t = true by unfold rAtom; simp [h1, h2])
      rw [HA.out]
      go_enter Try.func18, Try.ntmps18
      go_wp2_with fail
      go_ret
      exact ⟨ret_b (by simp), by have := HG.out; rwa [HWE.out] at this⟩
    · have HA := hide (show rAtom t = false by unfold rAtom; simp [h2])
      have h2' : t < -5 := by omega
      rw [HA.out]
      clear h2
      go_enter Try.func18, Try.ntmps18
      go_wp2_with fail
      go_ret
      exact ⟨ret_b (by simp; try omega), by have := HG.out; rwa [HWE.out] at this⟩
  · have HA := hide (show rAtom t = false by unfold rAtom; simp [h1])
    have h1' : 0 ≤ t := by omega
    rw [HA.out]
    clear h1
    go_enter Try.func18, Try.ntmps18
    go_wp2_with fail
    go_ret
    exact ⟨ret_b (by simp), by have := HG.out; rwa [HWE.out] at this⟩
set_option maxHeartbeats 4000000 in
set_option maxRecDepth 100000 in
theorem rVec_any (t : Int) (c1 c2 c3 : Value) (w : World) : Calls Try.prog 48 #[.agg #[.int .i64 t, c1, c2, c3]] w fun e w' => e = .returned (.bool (rVec t)) ∧ w.grownBy w' none := by
  obtain ⟨wa, hwa⟩ : ∃ wa, wa = w.alloc (.cells #[.int .i64 t, c1, c2, c3] 26) := ⟨_, rfl⟩
  have hc := (C4.box w (.int .i64 t) c1 c2 c3 26).c0
  rw [← hwa] at hc
  have HG := hide (show w.grownBy wa none by rw [hwa]; exact gb_alloc (gb_refl w none) _)
  have HWE := hide hwa
  clear hwa
  by_cases h1 : 1 ≤ t
  · by_cases h2 : t ≤ 5
    · have HA := hide (show rVec t = true by unfold rVec; simp [h1, h2])
      rw [HA.out]
      go_enter Try.func48, Try.ntmps48
      go_wp2_with fail
      go_ret
      exact ⟨ret_b (by simp), by have := HG.out; rwa [HWE.out] at this⟩
    · have HA := hide (show rVec t = false by unfold rVec; simp [h2])
      have h2' : 5 < t := by omega
      rw [HA.out]
      clear h2
      go_enter Try.func48, Try.ntmps48
      go_wp2_with fail
      go_ret
      exact ⟨ret_b (by simp; try omega), by have := HG.out; rwa [HWE.out] at this⟩
  · have HA := hide (show rVec t = false by unfold rVec; simp [h1])
    have h1' : t < 1 := by omega
    rw [HA.out]
    clear h1
    go_enter Try.func48, Try.ntmps48
    go_wp2_with fail
    go_ret
    exact ⟨ret_b (by simp), by have := HG.out; rwa [HWE.out] at this⟩
end Go.Proofs.Ytniliccobkhnlaa
