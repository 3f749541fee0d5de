/-
  vec.Not, vec.Neg, vec.Til.
-/
import Derived.Test.YtbmgodmfpoappaaGreatQOa
import Derived.Test.YtbmgodmfpoappaaGreatQDf
import Derived.Test.YtbmgodmfpoappaaGreatQKi
namespace Go.Proofs.YtbmgodmfpoappaaGreat
open Go.RowKit
attribute [local go_sem ↓] Go.wp_at_zero Go.wp_at_succ
set_option maxHeartbeats 8000000 in
set_option maxRecDepth 100000 in
theorem vNot_in (v : Vl) (w : World) (B : Nat) (nA : Option Addr) (nc : Nat) (sA : Option Addr) (sc : Nat) (lA : Option Addr) (lc : Nat) (hs : hasN v.t = true) (ht : v.tot ≤ 1200000000) (hB : B ≤ w.heap.size) (h : VB w B v nA nc sA sc lA lc) :
  Calls Tryz.prog 10 #[.agg #[.int .i64 v.t, .slice nA v.n.length nc, .slice sA v.s.length sc, .slice lA v.l.length lc]] w (NewE (.mk (likeT v.t 1) (v.n.map zeroI) [] []) w) := by
 obtain ⟨y, hy⟩ : ∃ y, y = Vl.mk (likeT v.t 1) (v.n.map zeroI) [] [] := ⟨_, rfl⟩
 have hmp := fun (w2 : World) (hg : w.grownBy w2 none) => mapped_isZero 1 (by decide) v w2 B nA nc sA sc lA lc ht (Nat.le_trans hB hg.size) (h.gb hg hB)
 rw [← hy] at hmp
 rw [← hy]
 have HMP := hide hmp
 obtain ⟨wa, hwa⟩ : ∃ wa, wa = (w.alloc (.cells #[.int .i64 v.t, .slice nA v.n.length nc, .slice sA v.s.length sc, .slice lA v.l.length lc] 26)).alloc (.cells #[.int .i64 0, .slice none 0 0, .slice none 0 0, .slice none 0 0] 26) := ⟨_, rfl⟩
 have bx : wa.heap[w.heap.size]? = some (.cells #[.int .i64 v.t, .slice nA v.n.length nc, .slice sA v.s.length sc, .slice lA v.l.length lc] 26 (0, 0)) := by rw [hwa]; exact (Below.heap_alloc _ _ _ (by rw [World.size_alloc]; omega)).trans (heap_alloc_new w _)
 have bz : wa.heap[w.heap.size + 1]? = some (.cells #[.int .i64 0, .slice none 0 0, .slice none 0 0, .slice none 0 0] 26 (0, 0)) := by rw [hwa]; have := heap_alloc_new (w.alloc (.cells #[.int .i64 v.t, .slice nA v.n.length nc, .slice sA v.s.length sc, .slice lA v.l.length lc] 26)) (.cells #[.int .i64 0, .slice none 0 0, .slice none 0 0, .slice none 0 0] 26); rwa [World.size_alloc] at this
 have HBX := hide bx
 have HBZ := hide bz
 have HSZ := hide (show wa.heap.size = w.heap.size + 2 by rw [hwa]; simp)
 have HG := hide (show w.grownBy wa none by rw [hwa]; exact gb_alloc (gb_alloc (gb_refl w none) _) _)
 have HWE := hide hwa
 obtain ⟨c0, c1, c2, c3⟩ : C4 wa w.heap.size 0 (.int .i64 v.t) (.slice nA v.n.length nc) (.slice sA v.s.length sc) (.slice lA v.l.length lc) := c4k bx
 have hnu := fun w2 => vNum_any v.t (.slice nA v.n.length nc) (.slice sA v.s.length sc) (.slice lA v.l.length lc) w2
 rw [hs] at hnu
 have HNU := hide hnu
 clear hnu hs hmp hy bx bz hwa h hB ht
 go_enter Tryz.func10, Tryz.ntmps10
 go_wp2_with fail
 rw [← HWE.out]
 go_wp2_with (first
  | (go_at_call 34; refine (HNU.out _).mono ?_; rintro e w1 ⟨rfl, hg1⟩; have HGA1 := hide hg1; have HG1 := hide (gb_trans HG.out hg1 (.inl rfl)); clear hg1 c0 c1 c2 c3; obtain ⟨c0, c1, c2, c3⟩ := c4k (blk_keep HBX.out HGA1.out (by simp)))
  | (go_at_call 28; refine (HMP.out _ HG1.out).mono ?_; rintro e w3 ⟨iA, ic, jA, jc, kA, kc, f3, rfl, ho3, hn3, hg3⟩; have HO3 := hide ho3; have HN3 := hide hn3; have HG3 := hide (gb_trans HGA1.out hg3 (.inl rfl)); have HGW3 := hide hg3; clear ho3 hn3 hg3; have hrr := blk_keep HBZ.out HG3.out (by simp); have HRR := hide hrr; obtain ⟨z0, z1, z2, z3, y0, y1, y2, y3⟩ := zz4 hrr; clear hrr))
 have HFIN := NewE.fin (x := y) (wa := w1) (g := w.heap.size + 1) HO3.out HN3.out HG1.out HGW3.out (Nat.le_succ _) (by have := HSZ.out; have := HGA1.out.size; omega)
 obtain ⟨m0, m1, m2, m3⟩ := C4.put HRR.out (.int .i64 y.t) (.slice iA y.n.length ic) (.slice jA y.s.length jc) (.slice kA y.l.length kc)
 simp only [put4, Nat.zero_add] at m0 m1 m2 m3
 refine bodyPost_ret (v := .tuple #[.agg #[.int .i64 y.t, .slice iA y.n.length ic, .slice jA y.s.length jc, .slice kA y.l.length kc], .int .i64 0]) (by simp [results, Tryz.results10, go_sem, m0, m1, m2, m3]) rfl ?_
 exact HFIN
set_option maxHeartbeats 8000000 in
set_option maxRecDepth 100000 in
theorem vNot_no (v : Vl) (w : World) (nA : Option Addr) (nc : Nat) (sA : Option Addr) (sc : Nat) (lA : Option Addr) (lc : Nat) (hs : hasN v.t = false) :
  Calls Tryz.prog 10 #[.agg #[.int .i64 v.t, .slice nA v.n.length nc, .slice sA v.s.length sc, .slice lA v.l.length lc]] w (ErrV 31 w) := by
 obtain ⟨wa, hwa⟩ : ∃ wa, wa = (w.alloc (.cells #[.int .i64 v.t, .slice nA v.n.length nc, .slice sA v.s.length sc, .slice lA v.l.length lc] 26)).alloc (.cells #[.int .i64 0, .slice none 0 0, .slice none 0 0, .slice none 0 0] 26) := ⟨_, rfl⟩
 have bx : wa.heap[w.heap.size]? = some (.cells #[.int .i64 v.t, .slice nA v.n.length nc, .slice sA v.s.length sc, .slice lA v.l.length lc] 26 (0, 0)) := by rw [hwa]; exact (Below.heap_alloc _ _ _ (by rw [World.size_alloc]; omega)).trans (heap_alloc_new w _)
 have bz : wa.heap[w.heap.size + 1]? = some (.cells #[.int .i64 0, .slice none 0 0, .slice none 0 0, .slice none 0 0] 26 (0, 0)) := by rw [hwa]; have := heap_alloc_new (w.alloc (.cells #[.int .i64 v.t, .slice nA v.n.length nc, .slice sA v.s.length sc, .slice lA v.l.length lc] 26)) (.cells #[.int .i64 0, .slice none 0 0, .slice none 0 0, .slice none 0 0] 26); rwa [World.size_alloc] at this
 have HBX := hide bx
 have HBZ := hide bz
 have HSZ := hide (show wa.heap.size = w.heap.size + 2 by rw [hwa]; simp)
 have HG := hide (show w.grownBy wa none by rw [hwa]; exact gb_alloc (gb_alloc (gb_refl w none) _) _)
 have HWE := hide hwa
 obtain ⟨c0, c1, c2, c3⟩ : C4 wa w.heap.size 0 (.int .i64 v.t) (.slice nA v.n.length nc) (.slice sA v.s.length sc) (.slice lA v.l.length lc) := c4k bx
 have hnu := fun w2 => vNum_any v.t (.slice nA v.n.length nc) (.slice sA v.s.length sc) (.slice lA v.l.length lc) w2
 rw [hs] at hnu
 have HNU := hide hnu
 clear hnu hs bx bz hwa
 go_enter Tryz.func10, Tryz.ntmps10
 go_wp2_with fail
 rw [← HWE.out]
 go_wp2_with (go_at_call 34; refine (HNU.out _).mono ?_; rintro e w1 ⟨rfl, hg1⟩; have HGA1 := hide hg1; have HG1 := hide (gb_trans HG.out hg1 (.inl rfl)); clear hg1 c0 c1 c2 c3; have hrr := blk_keep HBZ.out HGA1.out (by simp); have HRR := hide hrr; obtain ⟨z0, z1, z2, z3, y0, y1, y2, y3⟩ := zz4 hrr; clear hrr)
 obtain ⟨m0, m1, m2, m3⟩ := C4.put HRR.out (.int .i64 0) (.slice none 0 0) (.slice none 0 0) (.slice none 0 0)
 simp only [put4, Nat.zero_add] at m0 m1 m2 m3
 refine bodyPost_ret (v := .tuple #[.agg #[.int .i64 0, .slice none 0 0, .slice none 0 0, .slice none 0 0], .int .i64 31]) (by simp [results, Tryz.results10, go_sem, m0, m1, m2, m3]) rfl ⟨rfl, ?_⟩
 exact put4_to HG1.out (Nat.le_succ _)
set_option maxHeartbeats 8000000 in
set_option maxRecDepth 100000 in
theorem vNeg_bool (v : Vl) (w : World) (B : Nat) (nA : Option Addr) (nc : Nat) (sA : Option Addr) (sc : Nat) (lA : Option Addr) (lc : Nat) (hk : kindO v.t v.s.length v.n.length = 1) (ht : v.tot ≤ 1200000000) (hB : B ≤ w.heap.size) (h : VB w B v nA nc sA sc lA lc) :
  Calls Tryz.prog 6 #[.agg #[.int .i64 v.t, .slice nA v.n.length nc, .slice sA v.s.length sc, .slice lA v.l.length lc]] w (NewE (.mk (likeT v.t 2) (v.n.map negW) [] []) w) := by
 obtain ⟨y, hy⟩ : ∃ y, y = Vl.mk (likeT v.t 2) (v.n.map negW) [] [] := ⟨_, rfl⟩
 have hmp := fun (w2 : World) (hg : w.grownBy w2 none) => mapped_negative 2 (by decide) v w2 B nA nc sA sc lA lc ht (Nat.le_trans hB hg.size) (h.gb hg hB)
 rw [← hy] at hmp
 rw [← hy]
 have HMP := hide hmp
 obtain ⟨wa, hwa⟩ : ∃ wa, wa = (w.alloc (.cells #[.int .i64 v.t, .slice nA v.n.length nc, .slice sA v.s.length sc, .slice lA v.l.length lc] 26)).alloc (.cells #[.int .i64 0, .slice none 0 0, .slice none 0 0, .slice none 0 0] 26) := ⟨_, rfl⟩
 have bx : wa.heap[w.heap.size]? = some (.cells #[.int .i64 v.t, .slice nA v.n.length nc, .slice sA v.s.length sc, .slice lA v.l.length lc] 26 (0, 0)) := by rw [hwa]; exact (Below.heap_alloc _ _ _ (by rw [World.size_alloc]; omega)).trans (heap_alloc_new w _)
 have bz : wa.heap[w.heap.size + 1]? = some (.cells #[.int .i64 0, .slice none 0 0, .slice none 0 0, .slice none 0 0] 26 (0, 0)) := by rw [hwa]; have := heap_alloc_new (w.alloc (.cells #[.int .i64 v.t, .slice nA v.n.length nc, .slice sA v.s.length sc, .slice lA v.l.length lc] 26)) (.cells #[.int .i64 0, .slice none 0 0, .slice none 0 0, .slice none 0 0] 26); rwa [World.size_alloc] at this
 have HBX := hide bx
 have HBZ := hide bz
 have HSZ := hide (show wa.heap.size = w.heap.size + 2 by rw [hwa]; simp)
 have HG := hide (show w.grownBy wa none by rw [hwa]; exact gb_alloc (gb_alloc (gb_refl w none) _) _)
 have HWE := hide hwa
 obtain ⟨c0, c1, c2, c3⟩ : C4 wa w.heap.size 0 (.int .i64 v.t) (.slice nA v.n.length nc) (.slice sA v.s.length sc) (.slice lA v.l.length lc) := c4k bx
 have HKD := hide (fun w2 => kind_any v.t nA v.n.length nc sA v.s.length sc (.slice lA v.l.length lc) w2)
 generalize kindO v.t v.s.length v.n.length = kk at *
 have e1 : (kk == 1) = true := int_beq_t hk
 clear hk hmp hy bx bz hwa h hB ht
 go_enter Tryz.func6, Tryz.ntmps6
 go_wp2_with fail
 rw [← HWE.out]
 go_wp2_with (first
  | (go_at_call 27; refine (HKD.out _).mono ?_; rintro e w1 ⟨rfl, hg1⟩; have HGA1 := hide hg1; have HG1 := hide (gb_trans HG.out hg1 (.inl rfl)); clear hg1 c0 c1 c2 c3; obtain ⟨c0, c1, c2, c3⟩ := c4k (blk_keep HBX.out HGA1.out (by simp)))
  | (go_at_call 28; refine (HMP.out _ HG1.out).mono ?_; rintro e w3 ⟨iA, ic, jA, jc, kA, kc, f3, rfl, ho3, hn3, hg3⟩; have HO3 := hide ho3; have HN3 := hide hn3; have HG3 := hide (gb_trans HGA1.out hg3 (.inl rfl)); have HGW3 := hide hg3; clear ho3 hn3 hg3; have hrr := blk_keep HBZ.out HG3.out (by simp); have HRR := hide hrr; obtain ⟨z0, z1, z2, z3, y0, y1, y2, y3⟩ := zz4 hrr; clear hrr))
 have HFIN := NewE.fin (x := y) (wa := w1) (g := w.heap.size + 1) HO3.out HN3.out HG1.out HGW3.out (Nat.le_succ _) (by have := HSZ.out; have := HGA1.out.size; omega)
 obtain ⟨m0, m1, m2, m3⟩ := C4.put HRR.out (.int .i64 y.t) (.slice iA y.n.length ic) (.slice jA y.s.length jc) (.slice kA y.l.length kc)
 simp only [put4, Nat.zero_add] at m0 m1 m2 m3
 refine bodyPost_ret (v := .tuple #[.agg #[.int .i64 y.t, .slice iA y.n.length ic, .slice jA y.s.length jc, .slice kA y.l.length kc], .int .i64 0]) (by simp [results, Tryz.results6, go_sem, m0, m1, m2, m3]) rfl ?_
 exact HFIN
set_option maxHeartbeats 8000000 in
set_option maxRecDepth 100000 in
theorem vNeg_int (v : Vl) (w : World) (B : Nat) (nA : Option Addr) (nc : Nat) (sA : Option Addr) (sc : Nat) (lA : Option Addr) (lc : Nat) (hk : kindO v.t v.s.length v.n.length = 2) (ht : v.tot ≤ 1200000000) (hB : B ≤ w.heap.size) (h : VB w B v nA nc sA sc lA lc) :
  Calls Tryz.prog 6 #[.agg #[.int .i64 v.t, .slice nA v.n.length nc, .slice sA v.s.length sc, .slice lA v.l.length lc]] w (NewE (.mk (likeT v.t 2) (v.n.map negW) [] []) w) := by
 obtain ⟨y, hy⟩ : ∃ y, y = Vl.mk (likeT v.t 2) (v.n.map negW) [] [] := ⟨_, rfl⟩
 have hmp := fun (w2 : World) (hg : w.grownBy w2 none) => mapped_negative 2 (by decide) v w2 B nA nc sA sc lA lc ht (Nat.le_trans hB hg.size) (h.gb hg hB)
 rw [← hy] at hmp
 rw [← hy]
 have HMP := hide hmp
 obtain ⟨wa, hwa⟩ : ∃ wa, wa = (w.alloc (.cells #[.int .i64 v.t, .slice nA v.n.length nc, .slice sA v.s.length sc, .slice lA v.l.length lc] 26)).alloc (.cells #[.int .i64 0, .slice none 0 0, .slice none 0 0, .slice none 0 0] 26) := ⟨_, rfl⟩
 have bx : wa.heap[w.heap.size]? = some (.cells #[.int .i64 v.t, .slice nA v.n.length nc, .slice sA v.s.length sc, .slice lA v.l.length lc] 26 (0, 0)) := by rw [hwa]; exact (Below.heap_alloc _ _ _ (by rw [World.size_alloc]; omega)).trans (heap_alloc_new w _)
 have bz : wa.heap[w.heap.size + 1]? = some (.cells #[.int .i64 0, .slice none 0 0, .slice none 0 0, .slice none 0 0] 26 (0, 0)) := by rw [hwa]; have := heap_alloc_new (w.alloc (.cells #[.int .i64 v.t, .slice nA v.n.length nc, .slice sA v.s.length sc, .slice lA v.l.length lc] 26)) (.cells #[.int .i64 0, .slice none 0 0, .slice none 0 0, .slice none 0 0] 26); rwa [World.size_alloc] at this
 have HBX := hide bx
 have HBZ := hide bz
 have HSZ := hide (show wa.heap.size = w.heap.size + 2 by rw [hwa]; simp)
 have HG := hide (show w.grownBy wa none by rw [hwa]; exact gb_alloc (gb_alloc (gb_refl w none) _) _)
 have HWE := hide hwa
 obtain ⟨c0, c1, c2, c3⟩ : C4 wa w.heap.size 0 (.int .i64 v.t) (.slice nA v.n.length nc) (.slice sA v.s.length sc) (.slice lA v.l.length lc) := c4k bx
 have HKD := hide (fun w2 => kind_any v.t nA v.n.length nc sA v.s.length sc (.slice lA v.l.length lc) w2)
 generalize kindO v.t v.s.length v.n.length = kk at *
 have e1 : (kk == 1) = false := int_beq_f (by omega)
 have e2 : (kk == 2) = true := int_beq_t hk
 clear hk hmp hy bx bz hwa h hB ht
 go_enter Tryz.func6, Tryz.ntmps6
 go_wp2_with fail
 rw [← HWE.out]
 go_wp2_with (first
  | (go_at_call 27; refine (HKD.out _).mono ?_; rintro e w1 ⟨rfl, hg1⟩; have HGA1 := hide hg1; have HG1 := hide (gb_trans HG.out hg1 (.inl rfl)); clear hg1 c0 c1 c2 c3; obtain ⟨c0, c1, c2, c3⟩ := c4k (blk_keep HBX.out HGA1.out (by simp)))
  | (go_at_call 28; refine (HMP.out _ HG1.out).mono ?_; rintro e w3 ⟨iA, ic, jA, jc, kA, kc, f3, rfl, ho3, hn3, hg3⟩; have HO3 := hide ho3; have HN3 := hide hn3; have HG3 := hide (gb_trans HGA1.out hg3 (.inl rfl)); have HGW3 := hide hg3; clear ho3 hn3 hg3; have hrr := blk_keep HBZ.out HG3.out (by simp); have HRR := hide hrr; obtain ⟨z0, z1, z2, z3, y0, y1, y2, y3⟩ := zz4 hrr; clear hrr))
 have HFIN := NewE.fin (x := y) (wa := w1) (g := w.heap.size + 1) HO3.out HN3.out HG1.out HGW3.out (Nat.le_succ _) (by have := HSZ.out; have := HGA1.out.size; omega)
 obtain ⟨m0, m1, m2, m3⟩ := C4.put HRR.out (.int .i64 y.t) (.slice iA y.n.length ic) (.slice jA y.s.length jc) (.slice kA y.l.length kc)
 simp only [put4, Nat.zero_add] at m0 m1 m2 m3
 refine bodyPost_ret (v := .tuple #[.agg #[.int .i64 y.t, .slice iA y.n.length ic, .slice jA y.s.length jc, .slice kA y.l.length kc], .int .i64 0]) (by simp [results, Tryz.results6, go_sem, m0, m1, m2, m3]) rfl ?_
 exact HFIN
set_option maxHeartbeats 8000000 in
set_option maxRecDepth 100000 in
theorem vNeg_dec (v : Vl) (w : World) (B : Nat) (nA : Option Addr) (nc : Nat) (sA : Option Addr) (sc : Nat) (lA : Option Addr) (lc : Nat) (hk : kindO v.t v.s.length v.n.length = 5) (ht : v.tot ≤ 1200000000) (hB : B ≤ w.heap.size) (h : VB w B v nA nc sA sc lA lc) :
  Calls Tryz.prog 6 #[.agg #[.int .i64 v.t, .slice nA v.n.length nc, .slice sA v.s.length sc, .slice lA v.l.length lc]] w (NewE (.mk (likeT v.t 5) (v.n.map negW) [] []) w) := by
 obtain ⟨y, hy⟩ : ∃ y, y = Vl.mk (likeT v.t 5) (v.n.map negW) [] [] := ⟨_, rfl⟩
 have hmp := fun (w2 : World) (hg : w.grownBy w2 none) => mapped_negative 5 (by decide) v w2 B nA nc sA sc lA lc ht (Nat.le_trans hB hg.size) (h.gb hg hB)
 rw [← hy] at hmp
 rw [← hy]
 have HMP := hide hmp
 obtain ⟨wa, hwa⟩ : ∃ wa, wa = (w.alloc (.cells #[.int .i64 v.t, .slice nA v.n.length nc, .slice sA v.s.length sc, .slice lA v.l.length lc] 26)).alloc (.cells #[.int .i64 0, .slice none 0 0, .slice none 0 0, .slice none 0 0] 26) := ⟨_, rfl⟩
 have bx : wa.heap[w.heap.size]? = some (.cells #[.int .i64 v.t, .slice nA v.n.length nc, .slice sA v.s.length sc, .slice lA v.l.length lc] 26 (0, 0)) := by rw [hwa]; exact (Below.heap_alloc _ _ _ (by rw [World.size_alloc]; omega)).trans (heap_alloc_new w _)
 have bz : wa.heap[w.heap.size + 1]? = some (.cells #[.int .i64 0, .slice none 0 0, .slice none 0 0, .slice none 0 0] 26 (0, 0)) := by rw [hwa]; have := heap_alloc_new (w.alloc (.cells #[.int .i64 v.t, .slice nA v.n.length nc, .slice sA v.s.length sc, .slice lA v.l.length lc] 26)) (.cells #[.int .i64 0, .slice none 0 0, .slice none 0 0, .slice none 0 0] 26); rwa [World.size_alloc] at this
 have HBX := hide bx
 have HBZ := hide bz
 have HSZ := hide (show wa.heap.size = w.heap.size + 2 by rw [hwa]; simp)
 have HG := hide (show w.grownBy wa none by rw [hwa]; exact gb_alloc (gb_alloc (gb_refl w none) _) _)
 have HWE := hide hwa
 obtain ⟨c0, c1, c2, c3⟩ : C4 wa w.heap.size 0 (.int .i64 v.t) (.slice nA v.n.length nc) (.slice sA v.s.length sc) (.slice lA v.l.length lc) := c4k bx
 have HKD := hide (fun w2 => kind_any v.t nA v.n.length nc sA v.s.length sc (.slice lA v.l.length lc) w2)
 generalize kindO v.t v.s.length v.n.length = kk at *
 have e1 : (kk == 1) = false := int_beq_f (by omega)
 have e2 : (kk == 2) = false := int_beq_f (by omega)
 have e5 : (kk == 5) = true := int_beq_t hk
 clear hk hmp hy bx bz hwa h hB ht
 go_enter Tryz.func6, Tryz.ntmps6
 go_wp2_with fail
 rw [← HWE.out]
 go_wp2_with (first
  | (go_at_call 27; refine (HKD.out _).mono ?_; rintro e w1 ⟨rfl, hg1⟩; have HGA1 := hide hg1; have HG1 := hide (gb_trans HG.out hg1 (.inl rfl)); clear hg1 c0 c1 c2 c3; obtain ⟨c0, c1, c2, c3⟩ := c4k (blk_keep HBX.out HGA1.out (by simp)))
  | (go_at_call 28; refine (HMP.out _ HG1.out).mono ?_; rintro e w3 ⟨iA, ic, jA, jc, kA, kc, f3, rfl, ho3, hn3, hg3⟩; have HO3 := hide ho3; have HN3 := hide hn3; have HG3 := hide (gb_trans HGA1.out hg3 (.inl rfl)); have HGW3 := hide hg3; clear ho3 hn3 hg3; have hrr := blk_keep HBZ.out HG3.out (by simp); have HRR := hide hrr; obtain ⟨z0, z1, z2, z3, y0, y1, y2, y3⟩ := zz4 hrr; clear hrr))
 have HFIN := NewE.fin (x := y) (wa := w1) (g := w.heap.size + 1) HO3.out HN3.out HG1.out HGW3.out (Nat.le_succ _) (by have := HSZ.out; have := HGA1.out.size; omega)
 obtain ⟨m0, m1, m2, m3⟩ := C4.put HRR.out (.int .i64 y.t) (.slice iA y.n.length ic) (.slice jA y.s.length jc) (.slice kA y.l.length kc)
 simp only [put4, Nat.zero_add] at m0 m1 m2 m3
 refine bodyPost_ret (v := .tuple #[.agg #[.int .i64 y.t, .slice iA y.n.length ic, .slice jA y.s.length jc, .slice kA y.l.length kc], .int .i64 0]) (by simp [results, Tryz.results6, go_sem, m0, m1, m2, m3]) rfl ?_
 exact HFIN
set_option maxHeartbeats 8000000 in
set_option maxRecDepth 100000 in
theorem vNeg_no (v : Vl) (w : World) (nA : Option Addr) (nc : Nat) (sA : Option Addr) (sc : Nat) (lA : Option Addr) (lc : Nat) (hk : kindO v.t v.s.length v.n.length ≠ 1 ∧ kindO v.t v.s.length v.n.length ≠ 2 ∧ kindO v.t v.s.length v.n.length ≠ 5) :
  Calls Tryz.prog 6 #[.agg #[.int .i64 v.t, .slice nA v.n.length nc, .slice sA v.s.length sc, .slice lA v.l.length lc]] w (ErrV 31 w) := by
 obtain ⟨wa, hwa⟩ : ∃ wa, wa = (w.alloc (.cells #[.int .i64 v.t, .slice nA v.n.length nc, .slice sA v.s.length sc, .slice lA v.l.length lc] 26)).alloc (.cells #[.int .i64 0, .slice none 0 0, .slice none 0 0, .slice none 0 0] 26) := ⟨_, rfl⟩
 have bx : wa.heap[w.heap.size]? = some (.cells #[.int .i64 v.t, .slice nA v.n.length nc, .slice sA v.s.length sc, .slice lA v.l.length lc] 26 (0, 0)) := by rw [hwa]; exact (Below.heap_alloc _ _ _ (by rw [World.size_alloc]; omega)).trans (heap_alloc_new w _)
 have bz : wa.heap[w.heap.size + 1]? = some (.cells #[.int .i64 0, .slice none 0 0, .slice none 0 0, .slice none 0 0] 26 (0, 0)) := by rw [hwa]; have := heap_alloc_new (w.alloc (.cells #[.int .i64 v.t, .slice nA v.n.length nc, .slice sA v.s.length sc, .slice lA v.l.length lc] 26)) (.cells #[.int .i64 0, .slice none 0 0, .slice none 0 0, .slice none 0 0] 26); rwa [World.size_alloc] at this
 have HBX := hide bx
 have HBZ := hide bz
 have HSZ := hide (show wa.heap.size = w.heap.size + 2 by rw [hwa]; simp)
 have HG := hide (show w.grownBy wa none by rw [hwa]; exact gb_alloc (gb_alloc (gb_refl w none) _) _)
 have HWE := hide hwa
 obtain ⟨c0, c1, c2, c3⟩ : C4 wa w.heap.size 0 (.int .i64 v.t) (.slice nA v.n.length nc) (.slice sA v.s.length sc) (.slice lA v.l.length lc) := c4k bx
 have HKD := hide (fun w2 => kind_any v.t nA v.n.length nc sA v.s.length sc (.slice lA v.l.length lc) w2)
 generalize kindO v.t v.s.length v.n.length = kk at *
 have e1 : (kk == 1) = false := int_beq_f hk.1
 have e2 : (kk == 2) = false := int_beq_f hk.2.1
 have e5 : (kk == 5) = false := int_beq_f hk.2.2
 clear hk bx bz hwa
 go_enter Tryz.func6, Tryz.ntmps6
 go_wp2_with fail
 rw [← HWE.out]
 go_wp2_with (go_at_call 27; refine (HKD.out _).mono ?_; rintro e w1 ⟨rfl, hg1⟩; have HGA1 := hide hg1; have HG1 := hide (gb_trans HG.out hg1 (.inl rfl)); clear hg1 c0 c1 c2 c3; have hrr := blk_keep HBZ.out HGA1.out (by simp); have HRR := hide hrr; obtain ⟨z0, z1, z2, z3, y0, y1, y2, y3⟩ := zz4 hrr; clear hrr)
 obtain ⟨m0, m1, m2, m3⟩ := C4.put HRR.out (.int .i64 0) (.slice none 0 0) (.slice none 0 0) (.slice none 0 0)
 simp only [put4, Nat.zero_add] at m0 m1 m2 m3
 refine bodyPost_ret (v := .tuple #[.agg #[.int .i64 0, .slice none 0 0, .slice none 0 0, .slice none 0 0], .int .i64 31]) (by simp [results, Tryz.results6, go_sem, m0, m1, m2, m3]) rfl ⟨rfl, ?_⟩
 exact put4_to HG1.out (Nat.le_succ _)
end Go.Proofs.YtbmgodmfpoappaaGreat
