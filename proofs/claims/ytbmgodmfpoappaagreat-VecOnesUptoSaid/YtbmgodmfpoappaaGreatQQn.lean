/-
  The document's kind and flat.
-/
import Derived.Test.YtbmgodmfpoappaaGreatQKa
namespace Go.Proofs.YtbmgodmfpoappaaGreat
open Go.RowKit
attribute [local go_sem ↓] Go.wp_at_zero Go.wp_at_succ
def rkd (t : Int) : Int := if t < 0 then -t else t
def rFlat (t : Int) : Bool := rAtom t || rVec t
set_option maxHeartbeats 4000000 in
set_option maxRecDepth 100000 in
theorem rKind_any (t : Int) (ht : -1000 ≤ t) (c1 c2 c3 : Value) (w : World) : Calls Tryz.prog 31 #[.agg #[.int .i64 t, c1, c2, c3]] w fun e w' => e = .returned (.int .i64 (rkd t)) ∧ w.grownBy w' none := by
 obtain ⟨wa, hwa⟩ : ∃ wa, wa = w.alloc (.cells #[.int .i64 t, c1, c2, c3] 26) := ⟨_, rfl⟩
 have hg : w.grownBy wa none := by rw [hwa]; exact gb_alloc (gb_refl w none) _
 have hb : wa.heap[w.heap.size]? = some (.cells #[.int .i64 t, c1, c2, c3] 26 (0, 0)) := by rw [hwa]; exact heap_alloc_new w _
 obtain ⟨b0, b1, b2, b3⟩ : C4 wa w.heap.size 0 (.int .i64 t) c1 c2 c3 := c4k hb
 have HG := hide hg
 have HWE := hide hwa
 by_cases h : t < 0
 ·have HK := hide (show rkd t = -t by unfold rkd; rw [if_pos h])
  have h6 : IntKind.i64.wrap (-t) = -t := by rw [IntKind.wrap_i64]; omega
  clear hg hwa hb ht
  go_enter Tryz.func31, Tryz.ntmps31
  go_wp2_with fail
  rw [← HWE.out]
  go_wp2_with fail
  go_ret
  exact ⟨by rw [HK.out]; rfl, HG.out⟩
 ·have HK := hide (show rkd t = t by unfold rkd; rw [if_neg h])
  clear hg hwa hb ht
  go_enter Tryz.func31, Tryz.ntmps31
  go_wp2_with fail
  rw [← HWE.out]
  go_wp2_with fail
  go_ret
  exact ⟨by rw [HK.out]; rfl, HG.out⟩
set_option maxHeartbeats 4000000 in
set_option maxRecDepth 100000 in
theorem rFlat_any (t : Int) (c1 c2 c3 : Value) (w : World) : Calls Tryz.prog 32 #[.agg #[.int .i64 t, c1, c2, c3]] w fun e w' => e = .returned (.bool (rFlat t)) ∧ w.grownBy w' none := by
 obtain ⟨wa, hwa⟩ : ∃ wa, wa = w.alloc (.cells #[.int .i64 t, c1, c2, c3] 26) := ⟨_, rfl⟩
 have hg : w.grownBy wa none := by rw [hwa]; exact gb_alloc (gb_refl w none) _
 have hb : wa.heap[w.heap.size]? = some (.cells #[.int .i64 t, c1, c2, c3] 26 (0, 0)) := by rw [hwa]; exact heap_alloc_new w _
 obtain ⟨b0, b1, b2, b3⟩ : C4 wa w.heap.size 0 (.int .i64 t) c1 c2 c3 := c4k hb
 have HG := hide hg
 have HWE := hide hwa
 have HAT := hide (fun w2 => rAtom_any t c1 c2 c3 w2)
 have HVE := hide (fun w2 => rVec_any t c1 c2 c3 w2)
 have HF := hide (show rFlat t = (rAtom t || rVec t) from rfl)
 clear hg hwa hb
 rw [HF.out]
 clear HF
 generalize rVec t = rv at *
 cases hra : rAtom t
 ·rw [hra] at HAT
  clear hra
  go_enter Tryz.func32, Tryz.ntmps32
  go_wp2_with fail
  rw [← HWE.out]
  go_wp2_with (first
   | (go_at_call 33; refine (HAT.out _).mono ?_; rintro e w2 ⟨rfl, hg2⟩; have HG2 := hide (gb_trans HG.out hg2 (.inl rfl)); have b0 := cell_gb b0 hg2; have b1 := cell_gb b1 hg2; have b2 := cell_gb b2 hg2; have b3 := cell_gb b3 hg2; clear hg2)
   | (go_at_call 69; refine (HVE.out _).mono ?_; rintro e w3 ⟨rfl, hg3⟩; have HG3 := hide (gb_trans HG2.out hg3 (.inl rfl)); clear hg3))
  go_ret
  exact ⟨rfl, HG3.out⟩
 ·rw [hra] at HAT
  clear hra
  go_enter Tryz.func32, Tryz.ntmps32
  go_wp2_with fail
  rw [← HWE.out]
  go_wp2_with (go_at_call 33; refine (HAT.out _).mono ?_; rintro e w2 ⟨rfl, hg2⟩; have HG2 := hide (gb_trans HG.out hg2 (.inl rfl)); clear hg2)
  go_ret
  exact ⟨rfl, HG2.out⟩
end Go.Proofs.YtbmgodmfpoappaaGreat
