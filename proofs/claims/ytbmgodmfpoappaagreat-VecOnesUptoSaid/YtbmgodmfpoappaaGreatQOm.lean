/-
  The document's Neg of what has none.
-/
import Derived.Test.YtbmgodmfpoappaaGreatQOf
namespace Go.Proofs.YtbmgodmfpoappaaGreat
open Go.RowKit
attribute [local go_sem ↓] Go.wp_at_zero Go.wp_at_succ
set_option maxHeartbeats 8000000 in
set_option maxRecDepth 100000 in
theorem rNeg_no (v : Vl) (w : World) (nA : Option Addr) (nc : Nat) (sA : Option Addr) (sc : Nat) (lA : Option Addr) (lc : Nat) (hlow : -1000 ≤ v.t) (hs : rFlat v.t = false ∨ (plT (rkd v.t) ≠ 2 ∧ plT (rkd v.t) ≠ 5)) :
  Calls Tryz.prog 7 #[.agg #[.int .i64 v.t, .slice nA v.n.length nc, .slice sA v.s.length sc, .slice lA v.l.length lc]] w (ErrV 31 w) := by
 obtain ⟨wa, hwa⟩ : ∃ wa, wa = (w.alloc (.cells #[.int .i64 v.t, .slice nA v.n.length nc, .slice sA v.s.length sc, .slice lA v.l.length lc] 26)).alloc (.cells #[.int .i64 0, .slice none 0 0, .slice none 0 0, .slice none 0 0] 26) := ⟨_, rfl⟩
 have bx : wa.heap[w.heap.size]? = some (.cells #[.int .i64 v.t, .slice nA v.n.length nc, .slice sA v.s.length sc, .slice lA v.l.length lc] 26 (0, 0)) := by rw [hwa]; exact (Below.heap_alloc _ _ _ (by rw [World.size_alloc]; omega)).trans (heap_alloc_new w _)
 have bz : wa.heap[w.heap.size + 1]? = some (.cells #[.int .i64 0, .slice none 0 0, .slice none 0 0, .slice none 0 0] 26 (0, 0)) := by rw [hwa]; have := heap_alloc_new (w.alloc (.cells #[.int .i64 v.t, .slice nA v.n.length nc, .slice sA v.s.length sc, .slice lA v.l.length lc] 26)) (.cells #[.int .i64 0, .slice none 0 0, .slice none 0 0, .slice none 0 0] 26); rwa [World.size_alloc] at this
 have HBX := hide bx
 have HBZ := hide bz
 have HSZ := hide (show wa.heap.size = w.heap.size + 2 by rw [hwa]; simp)
 have HG := hide (show w.grownBy wa none by rw [hwa]; exact gb_alloc (gb_alloc (gb_refl w none) _) _)
 have HWE := hide hwa
 obtain ⟨c0, c1, c2, c3⟩ : C4 wa w.heap.size 0 (.int .i64 v.t) (.slice nA v.n.length nc) (.slice sA v.s.length sc) (.slice lA v.l.length lc) := c4k bx
 have HKD := hide (fun w2 => rKind_any v.t hlow (.slice nA v.n.length nc) (.slice sA v.s.length sc) (.slice lA v.l.length lc) w2)
 have HPL := hide (fun w2 => plain_any (rkd v.t) w2)
 have hfl := fun w2 => rFlat_any v.t (.slice nA v.n.length nc) (.slice sA v.s.length sc) (.slice lA v.l.length lc) w2
 generalize rkd v.t = rk at *
 generalize plT rk = pk at *
 cases hf : rFlat v.t
 ·rw [hf] at hfl
  have HFL := hide hfl
  clear hs hf hfl bx bz hwa hlow
  go_enter Tryz.func7, Tryz.ntmps7
  go_upto_region 1 with fail
  rw [← HWE.out]
  go_wp2_with (first
   | (go_at_call 31; refine (HKD.out _).mono ?_; rintro e w0 ⟨rfl, hg0⟩; have HG0 := hide hg0; clear hg0 c0 c1 c2 c3; obtain ⟨c0, c1, c2, c3⟩ := c4k (blk_keep HBX.out HG0.out (by simp)))
   | (go_at_call 30; refine (HPL.out _).mono ?_; rintro e w9 ⟨rfl, rfl⟩)
   | (go_at_call 32; refine (HFL.out _).mono ?_; rintro e w1 ⟨rfl, hg1⟩; have HGA1 := hide (gb_trans HG0.out hg1 (.inl rfl)); have HG1 := hide (gb_trans HG.out HGA1.out (.inl rfl)); clear hg1 c0 c1 c2 c3; have hrr := blk_keep HBZ.out HGA1.out (by simp); have HRR := hide hrr; obtain ⟨z0, z1, z2, z3, y0, y1, y2, y3⟩ := zz4 hrr; clear hrr))
  obtain ⟨m0, m1, m2, m3⟩ := C4.put HRR.out (.int .i64 0) (.slice none 0 0) (.slice none 0 0) (.slice none 0 0)
  simp only [put4, Nat.zero_add] at m0 m1 m2 m3
  refine bodyPost_ret (v := .tuple #[.agg #[.int .i64 0, .slice none 0 0, .slice none 0 0, .slice none 0 0], .int .i64 31]) (by simp [results, Tryz.results7, go_sem, m0, m1, m2, m3]) rfl ⟨rfl, ?_⟩
  exact put4_to HG1.out (Nat.le_succ _)
 ·rw [hf] at hfl hs
  have HFL := hide hfl
  have hn : pk ≠ 2 ∧ pk ≠ 5 := by
   rcases hs with h | h
   ·cases h
   ·exact h
  have e2 : (pk != 2) = true := by simp [hn.1]
  have e5 : (pk != 5) = true := by simp [hn.2]
  clear hs hf hfl hn bx bz hwa hlow
  go_enter Tryz.func7, Tryz.ntmps7
  go_upto_region 1 with fail
  rw [← HWE.out]
  go_wp2_with (first
   | (go_at_call 31; refine (HKD.out _).mono ?_; rintro e w0 ⟨rfl, hg0⟩; have HG0 := hide hg0; clear hg0 c0 c1 c2 c3; obtain ⟨c0, c1, c2, c3⟩ := c4k (blk_keep HBX.out HG0.out (by simp)))
   | (go_at_call 30; refine (HPL.out _).mono ?_; rintro e w9 ⟨rfl, rfl⟩)
   | (go_at_call 32; refine (HFL.out _).mono ?_; rintro e w1 ⟨rfl, hg1⟩; have HGA1 := hide (gb_trans HG0.out hg1 (.inl rfl)); have HG1 := hide (gb_trans HG.out HGA1.out (.inl rfl)); clear hg1 c0 c1 c2 c3; have hrr := blk_keep HBZ.out HGA1.out (by simp); have HRR := hide hrr; obtain ⟨z0, z1, z2, z3, y0, y1, y2, y3⟩ := zz4 hrr; clear hrr))
  obtain ⟨m0, m1, m2, m3⟩ := C4.put HRR.out (.int .i64 0) (.slice none 0 0) (.slice none 0 0) (.slice none 0 0)
  simp only [put4, Nat.zero_add] at m0 m1 m2 m3
  refine bodyPost_ret (v := .tuple #[.agg #[.int .i64 0, .slice none 0 0, .slice none 0 0, .slice none 0 0], .int .i64 31]) (by simp [results, Tryz.results7, go_sem, m0, m1, m2, m3]) rfl ⟨rfl, ?_⟩
  exact put4_to HG1.out (Nat.le_succ _)
end Go.Proofs.YtbmgodmfpoappaaGreat
