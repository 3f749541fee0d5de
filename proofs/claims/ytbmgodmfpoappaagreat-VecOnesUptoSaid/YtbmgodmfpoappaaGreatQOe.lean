/-
  vec.Til; Til's and Not's errors on both sides.
-/
import Derived.Test.YtbmgodmfpoappaaGreatQKr
namespace Go.Proofs.YtbmgodmfpoappaaGreat
open Go.RowKit
attribute [local go_sem ↓] Go.wp_at_zero Go.wp_at_succ
set_option maxHeartbeats 8000000 in
set_option maxRecDepth 100000 in
theorem vTil_under (n : Int) (hn : n < 0) (w : World) : Calls Tryz.prog 12 #[.int .i64 n] w (ErrV 2 w) := by
 obtain ⟨wa, hwa⟩ : ∃ wa, wa = w.alloc (.cells #[.int .i64 0, .slice none 0 0, .slice none 0 0, .slice none 0 0] 26) := ⟨_, rfl⟩
 have bz : wa.heap[w.heap.size]? = some (.cells #[.int .i64 0, .slice none 0 0, .slice none 0 0, .slice none 0 0] 26 (0, 0)) := by rw [hwa]; exact heap_alloc_new w _
 have HBZ := hide bz
 have HG := hide (show w.grownBy wa none by rw [hwa]; exact gb_alloc (gb_refl w none) _)
 have HWE := hide hwa
 have hn1 : n < 0 := hn
 have hrr := blk_keep HBZ.out (gb_refl wa none) (by simp)
 have HRR := hide hrr
 obtain ⟨z0, z1, z2, z3, y0, y1, y2, y3⟩ := zz4 hrr
 clear hrr
 clear bz hwa hn
 go_enter Tryz.func12, Tryz.ntmps12
 go_upto_region 1 with fail
 rw [← HWE.out]
 go_wp2_with fail
 obtain ⟨m0, m1, m2, m3⟩ := C4.put HRR.out (.int .i64 0) (.slice none 0 0) (.slice none 0 0) (.slice none 0 0)
 simp only [put4, Nat.zero_add] at m0 m1 m2 m3
 refine bodyPost_ret (v := .tuple #[.agg #[.int .i64 0, .slice none 0 0, .slice none 0 0, .slice none 0 0], .int .i64 2]) (by simp [results, Tryz.results12, go_sem, m0, m1, m2, m3]) rfl ⟨rfl, ?_⟩
 exact put4_to HG.out (Nat.le_refl _)
set_option maxHeartbeats 8000000 in
set_option maxRecDepth 100000 in
theorem vTil_over (n : Int) (hn : 65536 < n) (w : World) : Calls Tryz.prog 12 #[.int .i64 n] w (ErrV 6 w) := by
 obtain ⟨wa, hwa⟩ : ∃ wa, wa = w.alloc (.cells #[.int .i64 0, .slice none 0 0, .slice none 0 0, .slice none 0 0] 26) := ⟨_, rfl⟩
 have bz : wa.heap[w.heap.size]? = some (.cells #[.int .i64 0, .slice none 0 0, .slice none 0 0, .slice none 0 0] 26 (0, 0)) := by rw [hwa]; exact heap_alloc_new w _
 have HBZ := hide bz
 have HG := hide (show w.grownBy wa none by rw [hwa]; exact gb_alloc (gb_refl w none) _)
 have HWE := hide hwa
 have hn1 : 65536 < n := hn
 have hn0 : ¬ n < 0 := by omega
 have hrr := blk_keep HBZ.out (gb_refl wa none) (by simp)
 have HRR := hide hrr
 obtain ⟨z0, z1, z2, z3, y0, y1, y2, y3⟩ := zz4 hrr
 clear hrr
 clear bz hwa hn
 go_enter Tryz.func12, Tryz.ntmps12
 go_upto_region 1 with fail
 rw [← HWE.out]
 go_wp2_with fail
 obtain ⟨m0, m1, m2, m3⟩ := C4.put HRR.out (.int .i64 0) (.slice none 0 0) (.slice none 0 0) (.slice none 0 0)
 simp only [put4, Nat.zero_add] at m0 m1 m2 m3
 refine bodyPost_ret (v := .tuple #[.agg #[.int .i64 0, .slice none 0 0, .slice none 0 0, .slice none 0 0], .int .i64 6]) (by simp [results, Tryz.results12, go_sem, m0, m1, m2, m3]) rfl ⟨rfl, ?_⟩
 exact put4_to HG.out (Nat.le_refl _)
set_option maxHeartbeats 8000000 in
set_option maxRecDepth 100000 in
theorem rTil_under (n : Int) (hn : n < 0) (w : World) : Calls Tryz.prog 13 #[.int .i64 n] w (ErrV 2 w) := by
 obtain ⟨wa, hwa⟩ : ∃ wa, wa = w.alloc (.cells #[.int .i64 0, .slice none 0 0, .slice none 0 0, .slice none 0 0] 26) := ⟨_, rfl⟩
 have bz : wa.heap[w.heap.size]? = some (.cells #[.int .i64 0, .slice none 0 0, .slice none 0 0, .slice none 0 0] 26 (0, 0)) := by rw [hwa]; exact heap_alloc_new w _
 have HBZ := hide bz
 have HG := hide (show w.grownBy wa none by rw [hwa]; exact gb_alloc (gb_refl w none) _)
 have HWE := hide hwa
 have hn1 : n < 0 := hn
 have hrr := blk_keep HBZ.out (gb_refl wa none) (by simp)
 have HRR := hide hrr
 obtain ⟨z0, z1, z2, z3, y0, y1, y2, y3⟩ := zz4 hrr
 clear hrr
 clear bz hwa hn
 go_enter Tryz.func13, Tryz.ntmps13
 go_upto_region 1 with fail
 rw [← HWE.out]
 go_wp2_with fail
 obtain ⟨m0, m1, m2, m3⟩ := C4.put HRR.out (.int .i64 0) (.slice none 0 0) (.slice none 0 0) (.slice none 0 0)
 simp only [put4, Nat.zero_add] at m0 m1 m2 m3
 refine bodyPost_ret (v := .tuple #[.agg #[.int .i64 0, .slice none 0 0, .slice none 0 0, .slice none 0 0], .int .i64 2]) (by simp [results, Tryz.results13, go_sem, m0, m1, m2, m3]) rfl ⟨rfl, ?_⟩
 exact put4_to HG.out (Nat.le_refl _)
set_option maxHeartbeats 8000000 in
set_option maxRecDepth 100000 in
theorem rTil_over (n : Int) (hn : 65536 < n) (w : World) : Calls Tryz.prog 13 #[.int .i64 n] w (ErrV 6 w) := by
 obtain ⟨wa, hwa⟩ : ∃ wa, wa = w.alloc (.cells #[.int .i64 0, .slice none 0 0, .slice none 0 0, .slice none 0 0] 26) := ⟨_, rfl⟩
 have bz : wa.heap[w.heap.size]? = some (.cells #[.int .i64 0, .slice none 0 0, .slice none 0 0, .slice none 0 0] 26 (0, 0)) := by rw [hwa]; exact heap_alloc_new w _
 have HBZ := hide bz
 have HG := hide (show w.grownBy wa none by rw [hwa]; exact gb_alloc (gb_refl w none) _)
 have HWE := hide hwa
 have hn1 : 65536 < n := hn
 have hn0 : ¬ n < 0 := by omega
 have hrr := blk_keep HBZ.out (gb_refl wa none) (by simp)
 have HRR := hide hrr
 obtain ⟨z0, z1, z2, z3, y0, y1, y2, y3⟩ := zz4 hrr
 clear hrr
 clear bz hwa hn
 go_enter Tryz.func13, Tryz.ntmps13
 go_upto_region 1 with fail
 rw [← HWE.out]
 go_wp2_with fail
 obtain ⟨m0, m1, m2, m3⟩ := C4.put HRR.out (.int .i64 0) (.slice none 0 0) (.slice none 0 0) (.slice none 0 0)
 simp only [put4, Nat.zero_add] at m0 m1 m2 m3
 refine bodyPost_ret (v := .tuple #[.agg #[.int .i64 0, .slice none 0 0, .slice none 0 0, .slice none 0 0], .int .i64 6]) (by simp [results, Tryz.results13, go_sem, m0, m1, m2, m3]) rfl ⟨rfl, ?_⟩
 exact put4_to HG.out (Nat.le_refl _)
set_option maxHeartbeats 8000000 in
set_option maxRecDepth 100000 in
theorem vTil_in (n : Nat) (hn : n ≤ 65536) (w : World) : Calls Tryz.prog 12 #[.int .i64 (n : Int)] w (NewE (.mk 2 (rowI 0 n) [] []) w) := by
 obtain ⟨wa, hwa⟩ : ∃ wa, wa = w.alloc (.cells #[.int .i64 0, .slice none 0 0, .slice none 0 0, .slice none 0 0] 26) := ⟨_, rfl⟩
 have bz : wa.heap[w.heap.size]? = some (.cells #[.int .i64 0, .slice none 0 0, .slice none 0 0, .slice none 0 0] 26 (0, 0)) := by rw [hwa]; exact heap_alloc_new w _
 have HBZ := hide bz
 have HG := hide (show w.grownBy wa none by rw [hwa]; exact gb_alloc (gb_refl w none) _)
 have HWE := hide hwa
 have hn1 : ¬ (n : Int) < 0 := by omega
 have hn2 : ¬ (65536 : Int) < (n : Int) := by omega
 have HRW := hide (row_any 0 (n : Int) n (by omega) (by omega) (.inl (by omega)) wa)
 have HRL := hide (rowI_length 0 n)
 generalize rowI 0 n = rl at *
 clear bz hwa hn
 go_enter Tryz.func12, Tryz.ntmps12
 go_upto_region 1 with fail
 rw [← HWE.out]
 go_wp2_with (go_at_call 37; refine HRW.out.mono ?_; rintro e w2 ⟨hg2, A, c, hc, rfl, ho⟩; have HG2 := hide hg2; have HC2 := hide hc; have HO2 := hide ho; clear hg2 hc ho; have hrr := blk_keep HBZ.out HG2.out (by simp); have HRR := hide hrr; obtain ⟨z0, z1, z2, z3, y0, y1, y2, y3⟩ := zz4 hrr; clear hrr)
 obtain ⟨f, ho, hnd, hf⟩ := VOw.row64 (t := 2) HC2.out HO2.out
 have HFIN := NewE.fin (x := .mk 2 rl [] []) (wa := wa) (g := w.heap.size) ho ⟨hnd, fun b hb => ⟨hf b hb, VOw.lt _ _ _ ho b hb⟩⟩ HG.out HG2.out (Nat.le_refl _) (blk_lt HBZ.out)
 obtain ⟨m0, m1, m2, m3⟩ := C4.put HRR.out (.int .i64 2) (.slice A rl.length c) (.slice none 0 0) (.slice none 0 0)
 simp only [put4, Nat.zero_add] at m0 m1 m2 m3
 refine bodyPost_ret (v := .tuple #[.agg #[.int .i64 2, .slice A rl.length c, .slice none 0 0, .slice none 0 0], .int .i64 0]) (by simp [results, Tryz.results12, go_sem, m0, m1, m2, m3]) rfl ?_
 exact HFIN
set_option maxHeartbeats 8000000 in
set_option maxRecDepth 100000 in
theorem rNot_no (v : Vl) (w : World) (nA : Option Addr) (nc : Nat) (sA : Option Addr) (sc : Nat) (lA : Option Addr) (lc : Nat) (hs : hasN v.t = false) :
  Calls Tryz.prog 11 #[.agg #[.int .i64 v.t, .slice nA v.n.length nc, .slice sA v.s.length sc, .slice lA v.l.length lc]] w (ErrV 31 w) := by
 obtain ⟨wa, hwa⟩ : ∃ wa, wa = (w.alloc (.cells #[.int .i64 v.t, .slice nA v.n.length nc, .slice sA v.s.length sc, .slice lA v.l.length lc] 26)).alloc (.cells #[.int .i64 0, .slice none 0 0, .slice none 0 0, .slice none 0 0] 26) := ⟨_, rfl⟩
 have bx : wa.heap[w.heap.size]? = some (.cells #[.int .i64 v.t, .slice nA v.n.length nc, .slice sA v.s.length sc, .slice lA v.l.length lc] 26 (0, 0)) := by rw [hwa]; exact (Below.heap_alloc _ _ _ (by rw [World.size_alloc]; omega)).trans (heap_alloc_new w _)
 have bz : wa.heap[w.heap.size + 1]? = some (.cells #[.int .i64 0, .slice none 0 0, .slice none 0 0, .slice none 0 0] 26 (0, 0)) := by rw [hwa]; have := heap_alloc_new (w.alloc (.cells #[.int .i64 v.t, .slice nA v.n.length nc, .slice sA v.s.length sc, .slice lA v.l.length lc] 26)) (.cells #[.int .i64 0, .slice none 0 0, .slice none 0 0, .slice none 0 0] 26); rwa [World.size_alloc] at this
 have HBX := hide bx
 have HBZ := hide bz
 have HSZ := hide (show wa.heap.size = w.heap.size + 2 by rw [hwa]; simp)
 have HG := hide (show w.grownBy wa none by rw [hwa]; exact gb_alloc (gb_alloc (gb_refl w none) _) _)
 have HWE := hide hwa
 obtain ⟨c0, c1, c2, c3⟩ : C4 wa w.heap.size 0 (.int .i64 v.t) (.slice nA v.n.length nc) (.slice sA v.s.length sc) (.slice lA v.l.length lc) := c4k bx
 have hnu := fun w2 => rNumeric_any v.t (.slice nA v.n.length nc) (.slice sA v.s.length sc) (.slice lA v.l.length lc) w2
 rw [hs] at hnu
 have HNU := hide hnu
 clear hnu hs bx bz hwa
 go_enter Tryz.func11, Tryz.ntmps11
 go_wp2_with fail
 rw [← HWE.out]
 go_wp2_with (go_at_call 36; refine (HNU.out _).mono ?_; rintro e w1 ⟨rfl, hg1⟩; have HGA1 := hide hg1; have HG1 := hide (gb_trans HG.out hg1 (.inl rfl)); clear hg1 c0 c1 c2 c3; have hrr := blk_keep HBZ.out HGA1.out (by simp); have HRR := hide hrr; obtain ⟨z0, z1, z2, z3, y0, y1, y2, y3⟩ := zz4 hrr; clear hrr)
 obtain ⟨m0, m1, m2, m3⟩ := C4.put HRR.out (.int .i64 0) (.slice none 0 0) (.slice none 0 0) (.slice none 0 0)
 simp only [put4, Nat.zero_add] at m0 m1 m2 m3
 refine bodyPost_ret (v := .tuple #[.agg #[.int .i64 0, .slice none 0 0, .slice none 0 0, .slice none 0 0], .int .i64 31]) (by simp [results, Tryz.results11, go_sem, m0, m1, m2, m3]) rfl ⟨rfl, ?_⟩
 exact put4_to HG1.out (Nat.le_succ _)
end Go.Proofs.YtbmgodmfpoappaaGreat
