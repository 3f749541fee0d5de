/-
  What is named; too many; too long; depth.
-/
import Derived.Test.YtniliccobkhnlaaVw
namespace Go.Proofs.Ytniliccobkhnlaa
open Go.RowKit
attribute [local go_sem ↓] Go.wp_at_zero Go.wp_at_succ

/-- Has a value nothing but what its type names? -/
def named (v : Vl) : Bool :=
  let a := (v.n.length : Int) == 0
  let b := (v.s.length : Int) == 0
  let c := (v.l.length : Int) == 0
  if v.t = 0 ∨ v.t = 99 then a && b else if v.t = 98 then a else if v.t = 100 then a && c else if v.t = 101 then a && b && c else hasN v.t && b && c || hasS v.t && a && c

set_option maxHeartbeats 16000000 in
set_option maxRecDepth 100000 in
theorem named_any (v : Vl) (nA : Option Addr) (nc : Nat) (sA : Option Addr) (sc : Nat) (lA : Option Addr) (lc : Nat) (w : World) (ht : v.tot ≤ 1100000) :
    Calls Try.prog 90 #[.agg #[.int .i64 v.t, .slice nA v.n.length nc, .slice sA v.s.length sc, .slice lA v.l.length lc]] w fun e w' => e = .returned (.bool (named v)) ∧ w.grownBy w' none := by
  obtain ⟨l1, l2, l3, _⟩ := Vl.lens v ht
  have HD := hide (show named v = (if v.t = 0 ∨ v.t = 99 then ((v.n.length : Int) == 0) && ((v.s.length : Int) == 0) else if v.t = 98 then ((v.n.length : Int) == 0) else if v.t = 100 then ((v.n.length : Int) == 0) && ((v.l.length : Int) == 0) else if v.t = 101 then ((v.n.length : Int) == 0) && ((v.s.length : Int) == 0) && ((v.l.length : Int) == 0) else hasN v.t && ((v.s.length : Int) == 0) && ((v.l.length : Int) == 0) || hasS v.t && ((v.n.length : Int) == 0) && ((v.l.length : Int) == 0)) from rfl)
  rw [HD.out]
  clear HD
  have HN := hide (hasN_any v.t)
  have HS := hide (hasS_any v.t)
  generalize v.t = t at *
  generalize v.n.length = n at *
  generalize v.s.length = s at *
  generalize v.l.length = l at *
  obtain ⟨wa, hwa⟩ : ∃ wa, wa = w.alloc (.cells #[.int .i64 t, .slice nA n nc, .slice sA s sc, .slice lA l lc] 26) := ⟨_, rfl⟩
  have HG := hide (show w.grownBy wa none by rw [hwa]; exact gb_alloc (gb_refl w none) _)
  have hc := C4.box w (.int .i64 t) (.slice nA n nc) (.slice sA s sc) (.slice lA l lc) 26
  rw [← hwa] at hc
  have b0 : wa.cell? ⟨w.heap.size, 0, none⟩ = some (.int .i64 t) := hc.c0
  have b1 : wa.cell? ⟨w.heap.size, 1, none⟩ = some (.slice nA n nc) := hc.c1
  have b2 : wa.cell? ⟨w.heap.size, 2, none⟩ = some (.slice sA s sc) := hc.c2
  have b3 : wa.cell? ⟨w.heap.size, 3, none⟩ = some (.slice lA l lc) := hc.c3
  have HWE := hide hwa
  clear hwa hc
  generalize ha : ((n : Int) == 0) = a at *
  generalize hb : ((s : Int) == 0) = b at *
  generalize hd : ((l : Int) == 0) = d at *
  by_cases h0 : t = 0 ∨ t = 99
  · rw [if_pos h0]
    rcases h0 with rfl | rfl <;>
    · cases a <;> cases b <;>
      · go_enter Try.func90, Try.ntmps90
        go_wp2_with fail
        rw [← HWE.out]
        go_quiet (fail)
        go_wp2_with fail
        go_ret
        exact ⟨rfl, gb_drewN HG.out _⟩
  rw [if_neg h0]
  simp only [not_or] at h0
  have e0 := int_beq_f h0.1
  have e99 := int_beq_f h0.2
  clear h0
  by_cases h98 : t = 98
  · rw [if_pos h98]
    subst h98
    go_enter Try.func90, Try.ntmps90
    go_wp2_with fail
    rw [← HWE.out]
    go_quiet (fail)
    go_wp2_with fail
    go_ret
    exact ⟨rfl, gb_drewN HG.out _⟩
  rw [if_neg h98]
  have e98 := int_beq_f h98
  clear h98
  by_cases h100 : t = 100
  · rw [if_pos h100]
    subst h100
    cases a <;> cases d <;>
    · go_enter Try.func90, Try.ntmps90
      go_wp2_with fail
      rw [← HWE.out]
      go_quiet (fail)
      go_wp2_with fail
      go_ret
      exact ⟨rfl, gb_drewN HG.out _⟩
  rw [if_neg h100]
  have e100 := int_beq_f h100
  clear h100
  by_cases h101 : t = 101
  · rw [if_pos h101]
    subst h101
    cases a <;> cases b <;> cases d <;>
    · go_enter Try.func90, Try.ntmps90
      go_wp2_with fail
      rw [← HWE.out]
      go_quiet (fail)
      go_wp2_with fail
      go_ret
      exact ⟨rfl, gb_drewN HG.out _⟩
  rw [if_neg h101]
  have e101 := int_beq_f h101
  clear h101
  generalize hasN t = p at *
  generalize hasS t = r at *
  cases p <;> cases r <;> cases a <;> cases b <;> cases d <;>
  · go_enter Try.func90, Try.ntmps90
    go_wp2_with fail
    rw [← HWE.out]
    go_quiet (fail)
    go_wp2_with (first
      | (go_at_call 51; refine (HN.out _).mono ?_; rintro e w1 ⟨rfl, rfl⟩)
      | (go_at_call 52; refine (HS.out _).mono ?_; rintro e w1 ⟨rfl, rfl⟩))
    go_ret
    exact ⟨rfl, gb_drewN HG.out _⟩
end Go.Proofs.Ytniliccobkhnlaa
