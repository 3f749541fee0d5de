/-
  agg.Close, agg.Do, by what its parts give.
-/
import Derived.Test.YtgepejnooghjbaaGreatQap

namespace Go.Proofs.YtgepejnooghjbaaGreat
open Go.RowKit
attribute [local go_sem ↓] Go.wp_at_zero Go.wp_at_succ

set_option maxHeartbeats 4000000 in
set_option maxRecDepth 100000 in
theorem close4_some (n s sm : Int) (F : Vl) (fA : Option Addr) (fc : Nat) (gA : Option Addr) (gc : Nat) (hA : Option Addr) (hc : Nat) (sA : Option Addr) (sc : Nat) (tA : Option Addr) (tc : Nat) (uA : Option Addr) (uc : Nat) (hs : 0 < s) (hF : F.tot ≤ 500000) (w : World) (h : VB w w.heap.size F fA fc gA gc hA hc) : Calls Tryz.prog 33 #[.agg #[.int .i64 4, .int .i64 2, .int .i64 n, .int .i64 s, .int .i64 (sm / 4294967296), .int .i64 (sm % 4294967296), .int .i64 F.t, .slice fA F.n.length fc, .slice gA F.s.length gc, .slice hA F.l.length hc, .int .i64 0, .slice sA 0 sc, .slice tA 0 tc, .slice uA 0 uc, .int .i64 0]] w (TupV F w) := by
  obtain ⟨wa, hwa⟩ : ∃ wa, wa = (w.alloc (.cells #[.int .i64 4, .int .i64 2, .int .i64 n, .int .i64 s, .int .i64 (sm / 4294967296), .int .i64 (sm % 4294967296), .int .i64 F.t, .slice fA F.n.length fc, .slice gA F.s.length gc, .slice hA F.l.length hc, .int .i64 0, .slice sA 0 sc, .slice tA 0 tc, .slice uA 0 uc, .int .i64 0] 54)).alloc (.cells #[.int .i64 0, .slice none 0 0, .slice none 0 0, .slice none 0 0] 26) := ⟨_, rfl⟩
  have ha : wa.heap[w.heap.size]? = some (.cells #[.int .i64 4, .int .i64 2, .int .i64 n, .int .i64 s, .int .i64 (sm / 4294967296), .int .i64 (sm % 4294967296), .int .i64 F.t, .slice fA F.n.length fc, .slice gA F.s.length gc, .slice hA F.l.length hc, .int .i64 0, .slice sA 0 sc, .slice tA 0 tc, .slice uA 0 uc, .int .i64 0] 54 (0, 0)) := by rw [hwa]; exact (Below.heap_alloc _ _ _ (by rw [World.size_alloc]; omega)).trans (heap_alloc_new w _)
  have hz : wa.heap[w.heap.size + 1]? = some (.cells #[.int .i64 0, .slice none 0 0, .slice none 0 0, .slice none 0 0] 26 (0, 0)) := by rw [hwa]; have := heap_alloc_new (w.alloc (.cells #[.int .i64 4, .int .i64 2, .int .i64 n, .int .i64 s, .int .i64 (sm / 4294967296), .int .i64 (sm % 4294967296), .int .i64 F.t, .slice fA F.n.length fc, .slice gA F.s.length gc, .slice hA F.l.length hc, .int .i64 0, .slice sA 0 sc, .slice tA 0 tc, .slice uA 0 uc, .int .i64 0] 54)) (.cells #[.int .i64 0, .slice none 0 0, .slice none 0 0, .slice none 0 0] 26); rwa [World.size_alloc] at this
  have HBA := hide ha
  have HBZ := hide hz
  have HSZ := hide (show wa.heap.size = w.heap.size + 2 by rw [hwa]; simp)
  have hga : w.grownBy wa none := by rw [hwa]; exact gb_alloc (gb_alloc (gb_refl w none) _) _
  have HG := hide hga
  have HWE := hide hwa
  have HC := hide (fun w2 (hg : w.grownBy w2 none) => elementOr_some F 2 w2 w.heap.size fA fc gA gc hA hc hF hg.size (h.gb hg (Nat.le_refl _)))
  have a0 : wa.cell? ⟨w.heap.size, 0, none⟩ = some (.int .i64 4) := by rw [blk_cell ha]; rfl
  have a1 : wa.cell? ⟨w.heap.size, 1, none⟩ = some (.int .i64 2) := by rw [blk_cell ha]; rfl
  have a2 : wa.cell? ⟨w.heap.size, 2, none⟩ = some (.int .i64 n) := by rw [blk_cell ha]; rfl
  have a3 : wa.cell? ⟨w.heap.size, 3, none⟩ = some (.int .i64 s) := by rw [blk_cell ha]; rfl
  have a4 : wa.cell? ⟨w.heap.size, 4, none⟩ = some (.int .i64 (sm / 4294967296)) := by rw [blk_cell ha]; rfl
  have a5 : wa.cell? ⟨w.heap.size, 5, none⟩ = some (.int .i64 (sm % 4294967296)) := by rw [blk_cell ha]; rfl
  have a6 : wa.cell? ⟨w.heap.size, 6, none⟩ = some (.int .i64 F.t) := by rw [blk_cell ha]; rfl
  have a7 : wa.cell? ⟨w.heap.size, 7, none⟩ = some (.slice fA F.n.length fc) := by rw [blk_cell ha]; rfl
  have a8 : wa.cell? ⟨w.heap.size, 8, none⟩ = some (.slice gA F.s.length gc) := by rw [blk_cell ha]; rfl
  have a9 : wa.cell? ⟨w.heap.size, 9, none⟩ = some (.slice hA F.l.length hc) := by rw [blk_cell ha]; rfl
  have a10 : wa.cell? ⟨w.heap.size, 10, none⟩ = some (.int .i64 0) := by rw [blk_cell ha]; rfl
  have a11 : wa.cell? ⟨w.heap.size, 11, none⟩ = some (.slice sA 0 sc) := by rw [blk_cell ha]; rfl
  have a12 : wa.cell? ⟨w.heap.size, 12, none⟩ = some (.slice tA 0 tc) := by rw [blk_cell ha]; rfl
  have a13 : wa.cell? ⟨w.heap.size, 13, none⟩ = some (.slice uA 0 uc) := by rw [blk_cell ha]; rfl
  have a14 : wa.cell? ⟨w.heap.size, 14, none⟩ = some (.int .i64 0) := by rw [blk_cell ha]; rfl
  clear ha hz hwa hga hF h
  go_enter Tryz.func33, Tryz.ntmps33
  go_upto_region 1 with fail
  rw [← HWE.out]
  go_wp2_with (go_at_call 58; refine (HC.out _ HG.out).mono ?_; rintro e w1 ⟨nA, nc, pA, pc, lA, lc, f, rfl, ho1, hn1, hg1⟩; have HO1 := hide ho1; have HN1 := hide hn1; have HG1 := hide hg1; clear ho1 hn1 hg1; have hrr := blk_keep HBZ.out (HG1.out) (by simp); have HRR := hide hrr; have z0 := blk_frozen hrr 0; have z1 := blk_frozen hrr 1; have z2 := blk_frozen hrr 2; have z3 := blk_frozen hrr 3; have y0 : w1.cell? ⟨w.heap.size + 1, 0, none⟩ = some (.int .i64 0) := (by { rw [blk_cell hrr]; rfl }); have y1 : w1.cell? ⟨w.heap.size + 1, 1, none⟩ = some (.slice none 0 0) := (by { rw [blk_cell hrr]; rfl }); have y2 : w1.cell? ⟨w.heap.size + 1, 2, none⟩ = some (.slice none 0 0) := (by { rw [blk_cell hrr]; rfl }); have y3 : w1.cell? ⟨w.heap.size + 1, 3, none⟩ = some (.slice none 0 0) := (by { rw [blk_cell hrr]; rfl }); clear hrr)
  have HFIN := newT_fin HO1.out HN1.out HG.out HG1.out (Nat.le_succ _) (by have := HSZ.out; have := (HG.out).size; omega)
  obtain ⟨m0, m1, m2, m3⟩ := C4.put HRR.out (.int .i64 F.t) (.slice nA F.n.length nc) (.slice pA F.s.length pc) (.slice lA F.l.length lc)
  simp only [put4, Nat.zero_add] at m0 m1 m2 m3
  exact bodyPost_ret (v := .tuple #[.agg #[.int .i64 F.t, .slice nA F.n.length nc, .slice pA F.s.length pc, .slice lA F.l.length lc], .int .i64 0]) (by simp [results, Tryz.results33, go_sem, m0, m1, m2, m3]) rfl HFIN
set_option maxHeartbeats 4000000 in
set_option maxRecDepth 100000 in
theorem close4_none (n sm : Int) (F : Vl) (fA : Option Addr) (fc : Nat) (gA : Option Addr) (gc : Nat) (hA : Option Addr) (hc : Nat) (sA : Option Addr) (sc : Nat) (tA : Option Addr) (tc : Nat) (uA : Option Addr) (uc : Nat) (w : World) : Calls Tryz.prog 33 #[.agg #[.int .i64 4, .int .i64 2, .int .i64 n, .int .i64 0, .int .i64 (sm / 4294967296), .int .i64 (sm % 4294967296), .int .i64 F.t, .slice fA F.n.length fc, .slice gA F.s.length gc, .slice hA F.l.length hc, .int .i64 0, .slice sA 0 sc, .slice tA 0 tc, .slice uA 0 uc, .int .i64 0]] w (TupV (.mk (-2) [-9223372036854775808] [] []) w) := by
  obtain ⟨wa, hwa⟩ : ∃ wa, wa = (w.alloc (.cells #[.int .i64 4, .int .i64 2, .int .i64 n, .int .i64 0, .int .i64 (sm / 4294967296), .int .i64 (sm % 4294967296), .int .i64 F.t, .slice fA F.n.length fc, .slice gA F.s.length gc, .slice hA F.l.length hc, .int .i64 0, .slice sA 0 sc, .slice tA 0 tc, .slice uA 0 uc, .int .i64 0] 54)).alloc (.cells #[.int .i64 0, .slice none 0 0, .slice none 0 0, .slice none 0 0] 26) := ⟨_, rfl⟩
  have ha : wa.heap[w.heap.size]? = some (.cells #[.int .i64 4, .int .i64 2, .int .i64 n, .int .i64 0, .int .i64 (sm / 4294967296), .int .i64 (sm % 4294967296), .int .i64 F.t, .slice fA F.n.length fc, .slice gA F.s.length gc, .slice hA F.l.length hc, .int .i64 0, .slice sA 0 sc, .slice tA 0 tc, .slice uA 0 uc, .int .i64 0] 54 (0, 0)) := by rw [hwa]; exact (Below.heap_alloc _ _ _ (by rw [World.size_alloc]; omega)).trans (heap_alloc_new w _)
  have hz : wa.heap[w.heap.size + 1]? = some (.cells #[.int .i64 0, .slice none 0 0, .slice none 0 0, .slice none 0 0] 26 (0, 0)) := by rw [hwa]; have := heap_alloc_new (w.alloc (.cells #[.int .i64 4, .int .i64 2, .int .i64 n, .int .i64 0, .int .i64 (sm / 4294967296), .int .i64 (sm % 4294967296), .int .i64 F.t, .slice fA F.n.length fc, .slice gA F.s.length gc, .slice hA F.l.length hc, .int .i64 0, .slice sA 0 sc, .slice tA 0 tc, .slice uA 0 uc, .int .i64 0] 54)) (.cells #[.int .i64 0, .slice none 0 0, .slice none 0 0, .slice none 0 0] 26); rwa [World.size_alloc] at this
  have HBA := hide ha
  have HBZ := hide hz
  have HSZ := hide (show wa.heap.size = w.heap.size + 2 by rw [hwa]; simp)
  have hga : w.grownBy wa none := by rw [hwa]; exact gb_alloc (gb_alloc (gb_refl w none) _) _
  have HG := hide hga
  have HWE := hide hwa
  have HC := hide (fun w2 => elementOr_none (.int .i64 F.t) (.slice fA F.n.length fc) (.slice gA F.s.length gc) (.slice hA F.l.length hc) w2)
  have a0 : wa.cell? ⟨w.heap.size, 0, none⟩ = some (.int .i64 4) := by rw [blk_cell ha]; rfl
  have a1 : wa.cell? ⟨w.heap.size, 1, none⟩ = some (.int .i64 2) := by rw [blk_cell ha]; rfl
  have a2 : wa.cell? ⟨w.heap.size, 2, none⟩ = some (.int .i64 n) := by rw [blk_cell ha]; rfl
  have a3 : wa.cell? ⟨w.heap.size, 3, none⟩ = some (.int .i64 0) := by rw [blk_cell ha]; rfl
  have a4 : wa.cell? ⟨w.heap.size, 4, none⟩ = some (.int .i64 (sm / 4294967296)) := by rw [blk_cell ha]; rfl
  have a5 : wa.cell? ⟨w.heap.size, 5, none⟩ = some (.int .i64 (sm % 4294967296)) := by rw [blk_cell ha]; rfl
  have a6 : wa.cell? ⟨w.heap.size, 6, none⟩ = some (.int .i64 F.t) := by rw [blk_cell ha]; rfl
  have a7 : wa.cell? ⟨w.heap.size, 7, none⟩ = some (.slice fA F.n.length fc) := by rw [blk_cell ha]; rfl
  have a8 : wa.cell? ⟨w.heap.size, 8, none⟩ = some (.slice gA F.s.length gc) := by rw [blk_cell ha]; rfl
  have a9 : wa.cell? ⟨w.heap.size, 9, none⟩ = some (.slice hA F.l.length hc) := by rw [blk_cell ha]; rfl
  have a10 : wa.cell? ⟨w.heap.size, 10, none⟩ = some (.int .i64 0) := by rw [blk_cell ha]; rfl
  have a11 : wa.cell? ⟨w.heap.size, 11, none⟩ = some (.slice sA 0 sc) := by rw [blk_cell ha]; rfl
  have a12 : wa.cell? ⟨w.heap.size, 12, none⟩ = some (.slice tA 0 tc) := by rw [blk_cell ha]; rfl
  have a13 : wa.cell? ⟨w.heap.size, 13, none⟩ = some (.slice uA 0 uc) := by rw [blk_cell ha]; rfl
  have a14 : wa.cell? ⟨w.heap.size, 14, none⟩ = some (.int .i64 0) := by rw [blk_cell ha]; rfl
  clear ha hz hwa hga
  go_enter Tryz.func33, Tryz.ntmps33
  go_upto_region 1 with fail
  rw [← HWE.out]
  go_wp2_with (go_at_call 58; refine (HC.out _).mono ?_; rintro e w1 ⟨nA, nc, pA, pc, lA, lc, f, he, ho1, hn1, hg1⟩; obtain rfl : e = .returned (.agg #[.int .i64 (-2), .slice nA 1 nc, .slice pA 0 pc, .slice lA 0 lc]) := he; have HO1 := hide ho1; have HN1 := hide hn1; have HG1 := hide hg1; clear ho1 hn1 hg1; have hrr := blk_keep HBZ.out (HG1.out) (by simp); have HRR := hide hrr; have z0 := blk_frozen hrr 0; have z1 := blk_frozen hrr 1; have z2 := blk_frozen hrr 2; have z3 := blk_frozen hrr 3; have y0 : w1.cell? ⟨w.heap.size + 1, 0, none⟩ = some (.int .i64 0) := (by { rw [blk_cell hrr]; rfl }); have y1 : w1.cell? ⟨w.heap.size + 1, 1, none⟩ = some (.slice none 0 0) := (by { rw [blk_cell hrr]; rfl }); have y2 : w1.cell? ⟨w.heap.size + 1, 2, none⟩ = some (.slice none 0 0) := (by { rw [blk_cell hrr]; rfl }); have y3 : w1.cell? ⟨w.heap.size + 1, 3, none⟩ = some (.slice none 0 0) := (by { rw [blk_cell hrr]; rfl }); clear hrr)
  have HFIN := newT_fin (x := .mk (-2) [-9223372036854775808] [] []) HO1.out HN1.out HG.out HG1.out (Nat.le_succ _) (by have := HSZ.out; have := (HG.out).size; omega)
  obtain ⟨m0, m1, m2, m3⟩ := C4.put HRR.out (.int .i64 (-2)) (.slice nA 1 nc) (.slice pA 0 pc) (.slice lA 0 lc)
  simp only [put4, Nat.zero_add] at m0 m1 m2 m3
  exact bodyPost_ret (v := .tuple #[.agg #[.int .i64 (-2), .slice nA 1 nc, .slice pA 0 pc, .slice lA 0 lc], .int .i64 0]) (by simp [results, Tryz.results33, go_sem, m0, m1, m2, m3]) rfl HFIN
set_option maxHeartbeats 4000000 in
set_option maxRecDepth 100000 in
theorem close5_some (n s sm : Int) (F : Vl) (fA : Option Addr) (fc : Nat) (gA : Option Addr) (gc : Nat) (hA : Option Addr) (hc : Nat) (sA : Option Addr) (sc : Nat) (tA : Option Addr) (tc : Nat) (uA : Option Addr) (uc : Nat) (hs : 0 < s) (hF : F.tot ≤ 500000) (w : World) (h : VB w w.heap.size F fA fc gA gc hA hc) : Calls Tryz.prog 33 #[.agg #[.int .i64 5, .int .i64 2, .int .i64 n, .int .i64 s, .int .i64 (sm / 4294967296), .int .i64 (sm % 4294967296), .int .i64 F.t, .slice fA F.n.length fc, .slice gA F.s.length gc, .slice hA F.l.length hc, .int .i64 0, .slice sA 0 sc, .slice tA 0 tc, .slice uA 0 uc, .int .i64 0]] w (TupV F w) := by
  obtain ⟨wa, hwa⟩ : ∃ wa, wa = (w.alloc (.cells #[.int .i64 5, .int .i64 2, .int .i64 n, .int .i64 s, .int .i64 (sm / 4294967296), .int .i64 (sm % 4294967296), .int .i64 F.t, .slice fA F.n.length fc, .slice gA F.s.length gc, .slice hA F.l.length hc, .int .i64 0, .slice sA 0 sc, .slice tA 0 tc, .slice uA 0 uc, .int .i64 0] 54)).alloc (.cells #[.int .i64 0, .slice none 0 0, .slice none 0 0, .slice none 0 0] 26) := ⟨_, rfl⟩
  have ha : wa.heap[w.heap.size]? = some (.cells #[.int .i64 5, .int .i64 2, .int .i64 n, .int .i64 s, .int .i64 (sm / 4294967296), .int .i64 (sm % 4294967296), .int .i64 F.t, .slice fA F.n.length fc, .slice gA F.s.length gc, .slice hA F.l.length hc, .int .i64 0, .slice sA 0 sc, .slice tA 0 tc, .slice uA 0 uc, .int .i64 0] 54 (0, 0)) := by rw [hwa]; exact (Below.heap_alloc _ _ _ (by rw [World.size_alloc]; omega)).trans (heap_alloc_new w _)
  have hz : wa.heap[w.heap.size + 1]? = some (.cells #[.int .i64 0, .slice none 0 0, .slice none 0 0, .slice none 0 0] 26 (0, 0)) := by rw [hwa]; have := heap_alloc_new (w.alloc (.cells #[.int .i64 5, .int .i64 2, .int .i64 n, .int .i64 s, .int .i64 (sm / 4294967296), .int .i64 (sm % 4294967296), .int .i64 F.t, .slice fA F.n.length fc, .slice gA F.s.length gc, .slice hA F.l.length hc, .int .i64 0, .slice sA 0 sc, .slice tA 0 tc, .slice uA 0 uc, .int .i64 0] 54)) (.cells #[.int .i64 0, .slice none 0 0, .slice none 0 0, .slice none 0 0] 26); rwa [World.size_alloc] at this
  have HBA := hide ha
  have HBZ := hide hz
  have HSZ := hide (show wa.heap.size = w.heap.size + 2 by rw [hwa]; simp)
  have hga : w.grownBy wa none := by rw [hwa]; exact gb_alloc (gb_alloc (gb_refl w none) _) _
  have HG := hide hga
  have HWE := hide hwa
  have HC := hide (fun w2 (hg : w.grownBy w2 none) => elementOr_some F 2 w2 w.heap.size fA fc gA gc hA hc hF hg.size (h.gb hg (Nat.le_refl _)))
  have a0 : wa.cell? ⟨w.heap.size, 0, none⟩ = some (.int .i64 5) := by rw [blk_cell ha]; rfl
  have a1 : wa.cell? ⟨w.heap.size, 1, none⟩ = some (.int .i64 2) := by rw [blk_cell ha]; rfl
  have a2 : wa.cell? ⟨w.heap.size, 2, none⟩ = some (.int .i64 n) := by rw [blk_cell ha]; rfl
  have a3 : wa.cell? ⟨w.heap.size, 3, none⟩ = some (.int .i64 s) := by rw [blk_cell ha]; rfl
  have a4 : wa.cell? ⟨w.heap.size, 4, none⟩ = some (.int .i64 (sm / 4294967296)) := by rw [blk_cell ha]; rfl
  have a5 : wa.cell? ⟨w.heap.size, 5, none⟩ = some (.int .i64 (sm % 4294967296)) := by rw [blk_cell ha]; rfl
  have a6 : wa.cell? ⟨w.heap.size, 6, none⟩ = some (.int .i64 F.t) := by rw [blk_cell ha]; rfl
  have a7 : wa.cell? ⟨w.heap.size, 7, none⟩ = some (.slice fA F.n.length fc) := by rw [blk_cell ha]; rfl
  have a8 : wa.cell? ⟨w.heap.size, 8, none⟩ = some (.slice gA F.s.length gc) := by rw [blk_cell ha]; rfl
  have a9 : wa.cell? ⟨w.heap.size, 9, none⟩ = some (.slice hA F.l.length hc) := by rw [blk_cell ha]; rfl
  have a10 : wa.cell? ⟨w.heap.size, 10, none⟩ = some (.int .i64 0) := by rw [blk_cell ha]; rfl
  have a11 : wa.cell? ⟨w.heap.size, 11, none⟩ = some (.slice sA 0 sc) := by rw [blk_cell ha]; rfl
  have a12 : wa.cell? ⟨w.heap.size, 12, none⟩ = some (.slice tA 0 tc) := by rw [blk_cell ha]; rfl
  have a13 : wa.cell? ⟨w.heap.size, 13, none⟩ = some (.slice uA 0 uc) := by rw [blk_cell ha]; rfl
  have a14 : wa.cell? ⟨w.heap.size, 14, none⟩ = some (.int .i64 0) := by rw [blk_cell ha]; rfl
  clear ha hz hwa hga hF h
  go_enter Tryz.func33, Tryz.ntmps33
  go_upto_region 1 with fail
  rw [← HWE.out]
  go_wp2_with (go_at_call 58; refine (HC.out _ HG.out).mono ?_; rintro e w1 ⟨nA, nc, pA, pc, lA, lc, f, rfl, ho1, hn1, hg1⟩; have HO1 := hide ho1; have HN1 := hide hn1; have HG1 := hide hg1; clear ho1 hn1 hg1; have hrr := blk_keep HBZ.out (HG1.out) (by simp); have HRR := hide hrr; have z0 := blk_frozen hrr 0; have z1 := blk_frozen hrr 1; have z2 := blk_frozen hrr 2; have z3 := blk_frozen hrr 3; have y0 : w1.cell? ⟨w.heap.size + 1, 0, none⟩ = some (.int .i64 0) := (by { rw [blk_cell hrr]; rfl }); have y1 : w1.cell? ⟨w.heap.size + 1, 1, none⟩ = some (.slice none 0 0) := (by { rw [blk_cell hrr]; rfl }); have y2 : w1.cell? ⟨w.heap.size + 1, 2, none⟩ = some (.slice none 0 0) := (by { rw [blk_cell hrr]; rfl }); have y3 : w1.cell? ⟨w.heap.size + 1, 3, none⟩ = some (.slice none 0 0) := (by { rw [blk_cell hrr]; rfl }); clear hrr)
  have HFIN := newT_fin HO1.out HN1.out HG.out HG1.out (Nat.le_succ _) (by have := HSZ.out; have := (HG.out).size; omega)
  obtain ⟨m0, m1, m2, m3⟩ := C4.put HRR.out (.int .i64 F.t) (.slice nA F.n.length nc) (.slice pA F.s.length pc) (.slice lA F.l.length lc)
  simp only [put4, Nat.zero_add] at m0 m1 m2 m3
  exact bodyPost_ret (v := .tuple #[.agg #[.int .i64 F.t, .slice nA F.n.length nc, .slice pA F.s.length pc, .slice lA F.l.length lc], .int .i64 0]) (by simp [results, Tryz.results33, go_sem, m0, m1, m2, m3]) rfl HFIN
set_option maxHeartbeats 4000000 in
set_option maxRecDepth 100000 in
theorem close5_none (n sm : Int) (F : Vl) (fA : Option Addr) (fc : Nat) (gA : Option Addr) (gc : Nat) (hA : Option Addr) (hc : Nat) (sA : Option Addr) (sc : Nat) (tA : Option Addr) (tc : Nat) (uA : Option Addr) (uc : Nat) (w : World) : Calls Tryz.prog 33 #[.agg #[.int .i64 5, .int .i64 2, .int .i64 n, .int .i64 0, .int .i64 (sm / 4294967296), .int .i64 (sm % 4294967296), .int .i64 F.t, .slice fA F.n.length fc, .slice gA F.s.length gc, .slice hA F.l.length hc, .int .i64 0, .slice sA 0 sc, .slice tA 0 tc, .slice uA 0 uc, .int .i64 0]] w (TupV (.mk (-2) [-9223372036854775808] [] []) w) := by
  obtain ⟨wa, hwa⟩ : ∃ wa, wa = (w.alloc (.cells #[.int .i64 5, .int .i64 2, .int .i64 n, .int .i64 0, .int .i64 (sm / 4294967296), .int .i64 (sm % 4294967296), .int .i64 F.t, .slice fA F.n.length fc, .slice gA F.s.length gc, .slice hA F.l.length hc, .int .i64 0, .slice sA 0 sc, .slice tA 0 tc, .slice uA 0 uc, .int .i64 0] 54)).alloc (.cells #[.int .i64 0, .slice none 0 0, .slice none 0 0, .slice none 0 0] 26) := ⟨_, rfl⟩
  have ha : wa.heap[w.heap.size]? = some (.cells #[.int .i64 5, .int .i64 2, .int .i64 n, .int .i64 0, .int .i64 (sm / 4294967296), .int .i64 (sm % 4294967296), .int .i64 F.t, .slice fA F.n.length fc, .slice gA F.s.length gc, .slice hA F.l.length hc, .int .i64 0, .slice sA 0 sc, .slice tA 0 tc, .slice uA 0 uc, .int .i64 0] 54 (0, 0)) := by rw [hwa]; exact (Below.heap_alloc _ _ _ (by rw [World.size_alloc]; omega)).trans (heap_alloc_new w _)
  have hz : wa.heap[w.heap.size + 1]? = some (.cells #[.int .i64 0, .slice none 0 0, .slice none 0 0, .slice none 0 0] 26 (0, 0)) := by rw [hwa]; have := heap_alloc_new (w.alloc (.cells #[.int .i64 5, .int .i64 2, .int .i64 n, .int .i64 0, .int .i64 (sm / 4294967296), .int .i64 (sm % 4294967296), .int .i64 F.t, .slice fA F.n.length fc, .slice gA F.s.length gc, .slice hA F.l.length hc, .int .i64 0, .slice sA 0 sc, .slice tA 0 tc, .slice uA 0 uc, .int .i64 0] 54)) (.cells #[.int .i64 0, .slice none 0 0, .slice none 0 0, .slice none 0 0] 26); rwa [World.size_alloc] at this
  have HBA := hide ha
  have HBZ := hide hz
  have HSZ := hide (show wa.heap.size = w.heap.size + 2 by rw [hwa]; simp)
  have hga : w.grownBy wa none := by rw [hwa]; exact gb_alloc (gb_alloc (gb_refl w none) _) _
  have HG := hide hga
  have HWE := hide hwa
  have HC := hide (fun w2 => elementOr_none (.int .i64 F.t) (.slice fA F.n.length fc) (.slice gA F.s.length gc) (.slice hA F.l.length hc) w2)
  have a0 : wa.cell? ⟨w.heap.size, 0, none⟩ = some (.int .i64 5) := by rw [blk_cell ha]; rfl
  have a1 : wa.cell? ⟨w.heap.size, 1, none⟩ = some (.int .i64 2) := by rw [blk_cell ha]; rfl
  have a2 : wa.cell? ⟨w.heap.size, 2, none⟩ = some (.int .i64 n) := by rw [blk_cell ha]; rfl
  have a3 : wa.cell? ⟨w.heap.size, 3, none⟩ = some (.int .i64 0) := by rw [blk_cell ha]; rfl
  have a4 : wa.cell? ⟨w.heap.size, 4, none⟩ = some (.int .i64 (sm / 4294967296)) := by rw [blk_cell ha]; rfl
  have a5 : wa.cell? ⟨w.heap.size, 5, none⟩ = some (.int .i64 (sm % 4294967296)) := by rw [blk_cell ha]; rfl
  have a6 : wa.cell? ⟨w.heap.size, 6, none⟩ = some (.int .i64 F.t) := by rw [blk_cell ha]; rfl
  have a7 : wa.cell? ⟨w.heap.size, 7, none⟩ = some (.slice fA F.n.length fc) := by rw [blk_cell ha]; rfl
  have a8 : wa.cell? ⟨w.heap.size, 8, none⟩ = some (.slice gA F.s.length gc) := by rw [blk_cell ha]; rfl
  have a9 : wa.cell? ⟨w.heap.size, 9, none⟩ = some (.slice hA F.l.length hc) := by rw [blk_cell ha]; rfl
  have a10 : wa.cell? ⟨w.heap.size, 10, none⟩ = some (.int .i64 0) := by rw [blk_cell ha]; rfl
  have a11 : wa.cell? ⟨w.heap.size, 11, none⟩ = some (.slice sA 0 sc) := by rw [blk_cell ha]; rfl
  have a12 : wa.cell? ⟨w.heap.size, 12, none⟩ = some (.slice tA 0 tc) := by rw [blk_cell ha]; rfl
  have a13 : wa.cell? ⟨w.heap.size, 13, none⟩ = some (.slice uA 0 uc) := by rw [blk_cell ha]; rfl
  have a14 : wa.cell? ⟨w.heap.size, 14, none⟩ = some (.int .i64 0) := by rw [blk_cell ha]; rfl
  clear ha hz hwa hga
  go_enter Tryz.func33, Tryz.ntmps33
  go_upto_region 1 with fail
  rw [← HWE.out]
  go_wp2_with (go_at_call 58; refine (HC.out _).mono ?_; rintro e w1 ⟨nA, nc, pA, pc, lA, lc, f, he, ho1, hn1, hg1⟩; obtain rfl : e = .returned (.agg #[.int .i64 (-2), .slice nA 1 nc, .slice pA 0 pc, .slice lA 0 lc]) := he; have HO1 := hide ho1; have HN1 := hide hn1; have HG1 := hide hg1; clear ho1 hn1 hg1; have hrr := blk_keep HBZ.out (HG1.out) (by simp); have HRR := hide hrr; have z0 := blk_frozen hrr 0; have z1 := blk_frozen hrr 1; have z2 := blk_frozen hrr 2; have z3 := blk_frozen hrr 3; have y0 : w1.cell? ⟨w.heap.size + 1, 0, none⟩ = some (.int .i64 0) := (by { rw [blk_cell hrr]; rfl }); have y1 : w1.cell? ⟨w.heap.size + 1, 1, none⟩ = some (.slice none 0 0) := (by { rw [blk_cell hrr]; rfl }); have y2 : w1.cell? ⟨w.heap.size + 1, 2, none⟩ = some (.slice none 0 0) := (by { rw [blk_cell hrr]; rfl }); have y3 : w1.cell? ⟨w.heap.size + 1, 3, none⟩ = some (.slice none 0 0) := (by { rw [blk_cell hrr]; rfl }); clear hrr)
  have HFIN := newT_fin (x := .mk (-2) [-9223372036854775808] [] []) HO1.out HN1.out HG.out HG1.out (Nat.le_succ _) (by have := HSZ.out; have := (HG.out).size; omega)
  obtain ⟨m0, m1, m2, m3⟩ := C4.put HRR.out (.int .i64 (-2)) (.slice nA 1 nc) (.slice pA 0 pc) (.slice lA 0 lc)
  simp only [put4, Nat.zero_add] at m0 m1 m2 m3
  exact bodyPost_ret (v := .tuple #[.agg #[.int .i64 (-2), .slice nA 1 nc, .slice pA 0 pc, .slice lA 0 lc], .int .i64 0]) (by simp [results, Tryz.results33, go_sem, m0, m1, m2, m3]) rfl HFIN
set_option maxHeartbeats 4000000 in
set_option maxRecDepth 100000 in
theorem close3_ok (n s sm : Int) (F : Vl) (fA : Option Addr) (fc : Nat) (gA : Option Addr) (gc : Nat) (hA : Option Addr) (hc : Nat) (sA : Option Addr) (sc : Nat) (tA : Option Addr) (tc : Nat) (uA : Option Addr) (uc : Nat) (hk : -9223372036854775807 ≤ sm ∧ sm ≤ 9223372036854775807) (hs : Sum64 sm) (w : World) : Calls Tryz.prog 33 #[.agg #[.int .i64 3, .int .i64 2, .int .i64 n, .int .i64 s, .int .i64 (sm / 4294967296), .int .i64 (sm % 4294967296), .int .i64 F.t, .slice fA F.n.length fc, .slice gA F.s.length gc, .slice hA F.l.length hc, .int .i64 0, .slice sA 0 sc, .slice tA 0 tc, .slice uA 0 uc, .int .i64 0]] w (TupV (.mk (-2) [sm] [] []) w) := by
  obtain ⟨wa, hwa⟩ : ∃ wa, wa = (w.alloc (.cells #[.int .i64 3, .int .i64 2, .int .i64 n, .int .i64 s, .int .i64 (sm / 4294967296), .int .i64 (sm % 4294967296), .int .i64 F.t, .slice fA F.n.length fc, .slice gA F.s.length gc, .slice hA F.l.length hc, .int .i64 0, .slice sA 0 sc, .slice tA 0 tc, .slice uA 0 uc, .int .i64 0] 54)).alloc (.cells #[.int .i64 0, .slice none 0 0, .slice none 0 0, .slice none 0 0] 26) := ⟨_, rfl⟩
  have ha : wa.heap[w.heap.size]? = some (.cells #[.int .i64 3, .int .i64 2, .int .i64 n, .int .i64 s, .int .i64 (sm / 4294967296), .int .i64 (sm % 4294967296), .int .i64 F.t, .slice fA F.n.length fc, .slice gA F.s.length gc, .slice hA F.l.length hc, .int .i64 0, .slice sA 0 sc, .slice tA 0 tc, .slice uA 0 uc, .int .i64 0] 54 (0, 0)) := by rw [hwa]; exact (Below.heap_alloc _ _ _ (by rw [World.size_alloc]; omega)).trans (heap_alloc_new w _)
  have hz : wa.heap[w.heap.size + 1]? = some (.cells #[.int .i64 0, .slice none 0 0, .slice none 0 0, .slice none 0 0] 26 (0, 0)) := by rw [hwa]; have := heap_alloc_new (w.alloc (.cells #[.int .i64 3, .int .i64 2, .int .i64 n, .int .i64 s, .int .i64 (sm / 4294967296), .int .i64 (sm % 4294967296), .int .i64 F.t, .slice fA F.n.length fc, .slice gA F.s.length gc, .slice hA F.l.length hc, .int .i64 0, .slice sA 0 sc, .slice tA 0 tc, .slice uA 0 uc, .int .i64 0] 54)) (.cells #[.int .i64 0, .slice none 0 0, .slice none 0 0, .slice none 0 0] 26); rwa [World.size_alloc] at this
  have HBA := hide ha
  have HBZ := hide hz
  have HSZ := hide (show wa.heap.size = w.heap.size + 2 by rw [hwa]; simp)
  have hga : w.grownBy wa none := by rw [hwa]; exact gb_alloc (gb_alloc (gb_refl w none) _) _
  have HG := hide hga
  have HWE := hide hwa
  have HC := hide (fun w2 => closeSum_ok 3 n s sm F fA fc gA gc hA hc sA sc tA tc uA uc hk hs w2)
  have a0 : wa.cell? ⟨w.heap.size, 0, none⟩ = some (.int .i64 3) := by rw [blk_cell ha]; rfl
  have a1 : wa.cell? ⟨w.heap.size, 1, none⟩ = some (.int .i64 2) := by rw [blk_cell ha]; rfl
  have a2 : wa.cell? ⟨w.heap.size, 2, none⟩ = some (.int .i64 n) := by rw [blk_cell ha]; rfl
  have a3 : wa.cell? ⟨w.heap.size, 3, none⟩ = some (.int .i64 s) := by rw [blk_cell ha]; rfl
  have a4 : wa.cell? ⟨w.heap.size, 4, none⟩ = some (.int .i64 (sm / 4294967296)) := by rw [blk_cell ha]; rfl
  have a5 : wa.cell? ⟨w.heap.size, 5, none⟩ = some (.int .i64 (sm % 4294967296)) := by rw [blk_cell ha]; rfl
  have a6 : wa.cell? ⟨w.heap.size, 6, none⟩ = some (.int .i64 F.t) := by rw [blk_cell ha]; rfl
  have a7 : wa.cell? ⟨w.heap.size, 7, none⟩ = some (.slice fA F.n.length fc) := by rw [blk_cell ha]; rfl
  have a8 : wa.cell? ⟨w.heap.size, 8, none⟩ = some (.slice gA F.s.length gc) := by rw [blk_cell ha]; rfl
  have a9 : wa.cell? ⟨w.heap.size, 9, none⟩ = some (.slice hA F.l.length hc) := by rw [blk_cell ha]; rfl
  have a10 : wa.cell? ⟨w.heap.size, 10, none⟩ = some (.int .i64 0) := by rw [blk_cell ha]; rfl
  have a11 : wa.cell? ⟨w.heap.size, 11, none⟩ = some (.slice sA 0 sc) := by rw [blk_cell ha]; rfl
  have a12 : wa.cell? ⟨w.heap.size, 12, none⟩ = some (.slice tA 0 tc) := by rw [blk_cell ha]; rfl
  have a13 : wa.cell? ⟨w.heap.size, 13, none⟩ = some (.slice uA 0 uc) := by rw [blk_cell ha]; rfl
  have a14 : wa.cell? ⟨w.heap.size, 14, none⟩ = some (.int .i64 0) := by rw [blk_cell ha]; rfl
  clear ha hz hwa hga hk hs
  go_enter Tryz.func33, Tryz.ntmps33
  go_upto_region 1 with fail
  rw [← HWE.out]
  go_wp2_with (go_at_call 59; refine (HC.out _).mono ?_; rintro e w1 ⟨nA, nc, pA, pc, lA, lc, f, he, ho1, hn1, hg1⟩; obtain rfl : e = .returned (.tuple #[.agg #[.int .i64 (-2), .slice nA 1 nc, .slice pA 0 pc, .slice lA 0 lc], .int .i64 0]) := he; have HO1 := hide ho1; have HN1 := hide hn1; have HG1 := hide hg1; clear ho1 hn1 hg1; have hrr := blk_keep HBZ.out (HG1.out) (by simp); have HRR := hide hrr; have z0 := blk_frozen hrr 0; have z1 := blk_frozen hrr 1; have z2 := blk_frozen hrr 2; have z3 := blk_frozen hrr 3; have y0 : w1.cell? ⟨w.heap.size + 1, 0, none⟩ = some (.int .i64 0) := (by { rw [blk_cell hrr]; rfl }); have y1 : w1.cell? ⟨w.heap.size + 1, 1, none⟩ = some (.slice none 0 0) := (by { rw [blk_cell hrr]; rfl }); have y2 : w1.cell? ⟨w.heap.size + 1, 2, none⟩ = some (.slice none 0 0) := (by { rw [blk_cell hrr]; rfl }); have y3 : w1.cell? ⟨w.heap.size + 1, 3, none⟩ = some (.slice none 0 0) := (by { rw [blk_cell hrr]; rfl }); clear hrr)
  have HFIN := newT_fin (x := .mk (-2) [sm] [] []) HO1.out HN1.out HG.out HG1.out (Nat.le_succ _) (by have := HSZ.out; have := (HG.out).size; omega)
  obtain ⟨m0, m1, m2, m3⟩ := C4.put HRR.out (.int .i64 (-2)) (.slice nA 1 nc) (.slice pA 0 pc) (.slice lA 0 lc)
  simp only [put4, Nat.zero_add] at m0 m1 m2 m3
  exact bodyPost_ret (v := .tuple #[.agg #[.int .i64 (-2), .slice nA 1 nc, .slice pA 0 pc, .slice lA 0 lc], .int .i64 0]) (by simp [results, Tryz.results33, go_sem, m0, m1, m2, m3]) rfl HFIN
set_option maxHeartbeats 4000000 in
set_option maxRecDepth 100000 in
theorem close3_over (n s sm : Int) (F : Vl) (fA : Option Addr) (fc : Nat) (gA : Option Addr) (gc : Nat) (hA : Option Addr) (hc : Nat) (sA : Option Addr) (sc : Nat) (tA : Option Addr) (tc : Nat) (uA : Option Addr) (uc : Nat) (hk : ¬ (-9223372036854775807 ≤ sm ∧ sm ≤ 9223372036854775807)) (hs : Sum64 sm) (w : World) : Calls Tryz.prog 33 #[.agg #[.int .i64 3, .int .i64 2, .int .i64 n, .int .i64 s, .int .i64 (sm / 4294967296), .int .i64 (sm % 4294967296), .int .i64 F.t, .slice fA F.n.length fc, .slice gA F.s.length gc, .slice hA F.l.length hc, .int .i64 0, .slice sA 0 sc, .slice tA 0 tc, .slice uA 0 uc, .int .i64 0]] w (fun e w' => e = .returned (.tuple #[.agg #[.int .i64 0, .slice none 0 0, .slice none 0 0, .slice none 0 0], .int .i64 70]) ∧ w.grownBy w' none) := by
  obtain ⟨wa, hwa⟩ : ∃ wa, wa = (w.alloc (.cells #[.int .i64 3, .int .i64 2, .int .i64 n, .int .i64 s, .int .i64 (sm / 4294967296), .int .i64 (sm % 4294967296), .int .i64 F.t, .slice fA F.n.length fc, .slice gA F.s.length gc, .slice hA F.l.length hc, .int .i64 0, .slice sA 0 sc, .slice tA 0 tc, .slice uA 0 uc, .int .i64 0] 54)).alloc (.cells #[.int .i64 0, .slice none 0 0, .slice none 0 0, .slice none 0 0] 26) := ⟨_, rfl⟩
  have ha : wa.heap[w.heap.size]? = some (.cells #[.int .i64 3, .int .i64 2, .int .i64 n, .int .i64 s, .int .i64 (sm / 4294967296), .int .i64 (sm % 4294967296), .int .i64 F.t, .slice fA F.n.length fc, .slice gA F.s.length gc, .slice hA F.l.length hc, .int .i64 0, .slice sA 0 sc, .slice tA 0 tc, .slice uA 0 uc, .int .i64 0] 54 (0, 0)) := by rw [hwa]; exact (Below.heap_alloc _ _ _ (by rw [World.size_alloc]; omega)).trans (heap_alloc_new w _)
  have hz : wa.heap[w.heap.size + 1]? = some (.cells #[.int .i64 0, .slice none 0 0, .slice none 0 0, .slice none 0 0] 26 (0, 0)) := by rw [hwa]; have := heap_alloc_new (w.alloc (.cells #[.int .i64 3, .int .i64 2, .int .i64 n, .int .i64 s, .int .i64 (sm / 4294967296), .int .i64 (sm % 4294967296), .int .i64 F.t, .slice fA F.n.length fc, .slice gA F.s.length gc, .slice hA F.l.length hc, .int .i64 0, .slice sA 0 sc, .slice tA 0 tc, .slice uA 0 uc, .int .i64 0] 54)) (.cells #[.int .i64 0, .slice none 0 0, .slice none 0 0, .slice none 0 0] 26); rwa [World.size_alloc] at this
  have HBA := hide ha
  have HBZ := hide hz
  have HSZ := hide (show wa.heap.size = w.heap.size + 2 by rw [hwa]; simp)
  have hga : w.grownBy wa none := by rw [hwa]; exact gb_alloc (gb_alloc (gb_refl w none) _) _
  have HG := hide hga
  have HWE := hide hwa
  have HC := hide (fun w2 => closeSum_over 3 n s sm F fA fc gA gc hA hc sA sc tA tc uA uc hk hs w2)
  have a0 : wa.cell? ⟨w.heap.size, 0, none⟩ = some (.int .i64 3) := by rw [blk_cell ha]; rfl
  have a1 : wa.cell? ⟨w.heap.size, 1, none⟩ = some (.int .i64 2) := by rw [blk_cell ha]; rfl
  have a2 : wa.cell? ⟨w.heap.size, 2, none⟩ = some (.int .i64 n) := by rw [blk_cell ha]; rfl
  have a3 : wa.cell? ⟨w.heap.size, 3, none⟩ = some (.int .i64 s) := by rw [blk_cell ha]; rfl
  have a4 : wa.cell? ⟨w.heap.size, 4, none⟩ = some (.int .i64 (sm / 4294967296)) := by rw [blk_cell ha]; rfl
  have a5 : wa.cell? ⟨w.heap.size, 5, none⟩ = some (.int .i64 (sm % 4294967296)) := by rw [blk_cell ha]; rfl
  have a6 : wa.cell? ⟨w.heap.size, 6, none⟩ = some (.int .i64 F.t) := by rw [blk_cell ha]; rfl
  have a7 : wa.cell? ⟨w.heap.size, 7, none⟩ = some (.slice fA F.n.length fc) := by rw [blk_cell ha]; rfl
  have a8 : wa.cell? ⟨w.heap.size, 8, none⟩ = some (.slice gA F.s.length gc) := by rw [blk_cell ha]; rfl
  have a9 : wa.cell? ⟨w.heap.size, 9, none⟩ = some (.slice hA F.l.length hc) := by rw [blk_cell ha]; rfl
  have a10 : wa.cell? ⟨w.heap.size, 10, none⟩ = some (.int .i64 0) := by rw [blk_cell ha]; rfl
  have a11 : wa.cell? ⟨w.heap.size, 11, none⟩ = some (.slice sA 0 sc) := by rw [blk_cell ha]; rfl
  have a12 : wa.cell? ⟨w.heap.size, 12, none⟩ = some (.slice tA 0 tc) := by rw [blk_cell ha]; rfl
  have a13 : wa.cell? ⟨w.heap.size, 13, none⟩ = some (.slice uA 0 uc) := by rw [blk_cell ha]; rfl
  have a14 : wa.cell? ⟨w.heap.size, 14, none⟩ = some (.int .i64 0) := by rw [blk_cell ha]; rfl
  clear ha hz hwa hga hk hs
  go_enter Tryz.func33, Tryz.ntmps33
  go_upto_region 1 with fail
  rw [← HWE.out]
  go_wp2_with (go_at_call 59; refine (HC.out _).mono ?_; rintro e w1 ⟨rfl, hg1⟩; have HG1 := hide hg1; clear hg1; have hrr := blk_keep HBZ.out (HG1.out) (by simp); have HRR := hide hrr; have z0 := blk_frozen hrr 0; have z1 := blk_frozen hrr 1; have z2 := blk_frozen hrr 2; have z3 := blk_frozen hrr 3; have y0 : w1.cell? ⟨w.heap.size + 1, 0, none⟩ = some (.int .i64 0) := (by { rw [blk_cell hrr]; rfl }); have y1 : w1.cell? ⟨w.heap.size + 1, 1, none⟩ = some (.slice none 0 0) := (by { rw [blk_cell hrr]; rfl }); have y2 : w1.cell? ⟨w.heap.size + 1, 2, none⟩ = some (.slice none 0 0) := (by { rw [blk_cell hrr]; rfl }); have y3 : w1.cell? ⟨w.heap.size + 1, 3, none⟩ = some (.slice none 0 0) := (by { rw [blk_cell hrr]; rfl }); clear hrr)
  obtain ⟨m0, m1, m2, m3⟩ := C4.put HRR.out (.int .i64 0) (.slice none 0 0) (.slice none 0 0) (.slice none 0 0)
  simp only [put4, Nat.zero_add] at m0 m1 m2 m3
  exact bodyPost_ret (v := .tuple #[.agg #[.int .i64 0, .slice none 0 0, .slice none 0 0, .slice none 0 0], .int .i64 70]) (by simp [results, Tryz.results33, go_sem, m0, m1, m2, m3]) rfl ⟨rfl, put_four_gb (gb_trans HG.out HG1.out (.inl rfl)) (Nat.le_succ _) _ _ _ _⟩
set_option maxHeartbeats 4000000 in
set_option maxRecDepth 100000 in
theorem close6_none (n s sm : Int) (F : Vl) (fA : Option Addr) (fc : Nat) (gA : Option Addr) (gc : Nat) (hA : Option Addr) (hc : Nat) (sA : Option Addr) (sc : Nat) (tA : Option Addr) (tc : Nat) (uA : Option Addr) (uc : Nat) (hs : s = 0) (w : World) : Calls Tryz.prog 33 #[.agg #[.int .i64 6, .int .i64 2, .int .i64 n, .int .i64 s, .int .i64 (sm / 4294967296), .int .i64 (sm % 4294967296), .int .i64 F.t, .slice fA F.n.length fc, .slice gA F.s.length gc, .slice hA F.l.length hc, .int .i64 0, .slice sA 0 sc, .slice tA 0 tc, .slice uA 0 uc, .int .i64 0]] w (TupV (.mk (-2) [-9223372036854775808] [] []) w) := by
  obtain ⟨wa, hwa⟩ : ∃ wa, wa = (w.alloc (.cells #[.int .i64 6, .int .i64 2, .int .i64 n, .int .i64 s, .int .i64 (sm / 4294967296), .int .i64 (sm % 4294967296), .int .i64 F.t, .slice fA F.n.length fc, .slice gA F.s.length gc, .slice hA F.l.length hc, .int .i64 0, .slice sA 0 sc, .slice tA 0 tc, .slice uA 0 uc, .int .i64 0] 54)).alloc (.cells #[.int .i64 0, .slice none 0 0, .slice none 0 0, .slice none 0 0] 26) := ⟨_, rfl⟩
  have ha : wa.heap[w.heap.size]? = some (.cells #[.int .i64 6, .int .i64 2, .int .i64 n, .int .i64 s, .int .i64 (sm / 4294967296), .int .i64 (sm % 4294967296), .int .i64 F.t, .slice fA F.n.length fc, .slice gA F.s.length gc, .slice hA F.l.length hc, .int .i64 0, .slice sA 0 sc, .slice tA 0 tc, .slice uA 0 uc, .int .i64 0] 54 (0, 0)) := by rw [hwa]; exact (Below.heap_alloc _ _ _ (by rw [World.size_alloc]; omega)).trans (heap_alloc_new w _)
  have hz : wa.heap[w.heap.size + 1]? = some (.cells #[.int .i64 0, .slice none 0 0, .slice none 0 0, .slice none 0 0] 26 (0, 0)) := by rw [hwa]; have := heap_alloc_new (w.alloc (.cells #[.int .i64 6, .int .i64 2, .int .i64 n, .int .i64 s, .int .i64 (sm / 4294967296), .int .i64 (sm % 4294967296), .int .i64 F.t, .slice fA F.n.length fc, .slice gA F.s.length gc, .slice hA F.l.length hc, .int .i64 0, .slice sA 0 sc, .slice tA 0 tc, .slice uA 0 uc, .int .i64 0] 54)) (.cells #[.int .i64 0, .slice none 0 0, .slice none 0 0, .slice none 0 0] 26); rwa [World.size_alloc] at this
  have HBA := hide ha
  have HBZ := hide hz
  have HSZ := hide (show wa.heap.size = w.heap.size + 2 by rw [hwa]; simp)
  have hga : w.grownBy wa none := by rw [hwa]; exact gb_alloc (gb_alloc (gb_refl w none) _) _
  have HG := hide hga
  have HWE := hide hwa
  have HC := hide (fun w2 => closeAvg_none 6 n s sm F fA fc gA gc hA hc sA sc tA tc uA uc hs w2)
  have a0 : wa.cell? ⟨w.heap.size, 0, none⟩ = some (.int .i64 6) := by rw [blk_cell ha]; rfl
  have a1 : wa.cell? ⟨w.heap.size, 1, none⟩ = some (.int .i64 2) := by rw [blk_cell ha]; rfl
  have a2 : wa.cell? ⟨w.heap.size, 2, none⟩ = some (.int .i64 n) := by rw [blk_cell ha]; rfl
  have a3 : wa.cell? ⟨w.heap.size, 3, none⟩ = some (.int .i64 s) := by rw [blk_cell ha]; rfl
  have a4 : wa.cell? ⟨w.heap.size, 4, none⟩ = some (.int .i64 (sm / 4294967296)) := by rw [blk_cell ha]; rfl
  have a5 : wa.cell? ⟨w.heap.size, 5, none⟩ = some (.int .i64 (sm % 4294967296)) := by rw [blk_cell ha]; rfl
  have a6 : wa.cell? ⟨w.heap.size, 6, none⟩ = some (.int .i64 F.t) := by rw [blk_cell ha]; rfl
  have a7 : wa.cell? ⟨w.heap.size, 7, none⟩ = some (.slice fA F.n.length fc) := by rw [blk_cell ha]; rfl
  have a8 : wa.cell? ⟨w.heap.size, 8, none⟩ = some (.slice gA F.s.length gc) := by rw [blk_cell ha]; rfl
  have a9 : wa.cell? ⟨w.heap.size, 9, none⟩ = some (.slice hA F.l.length hc) := by rw [blk_cell ha]; rfl
  have a10 : wa.cell? ⟨w.heap.size, 10, none⟩ = some (.int .i64 0) := by rw [blk_cell ha]; rfl
  have a11 : wa.cell? ⟨w.heap.size, 11, none⟩ = some (.slice sA 0 sc) := by rw [blk_cell ha]; rfl
  have a12 : wa.cell? ⟨w.heap.size, 12, none⟩ = some (.slice tA 0 tc) := by rw [blk_cell ha]; rfl
  have a13 : wa.cell? ⟨w.heap.size, 13, none⟩ = some (.slice uA 0 uc) := by rw [blk_cell ha]; rfl
  have a14 : wa.cell? ⟨w.heap.size, 14, none⟩ = some (.int .i64 0) := by rw [blk_cell ha]; rfl
  clear ha hz hwa hga hs
  go_enter Tryz.func33, Tryz.ntmps33
  go_upto_region 1 with fail
  rw [← HWE.out]
  go_wp2_with (go_at_call 60; refine (HC.out _).mono ?_; rintro e w1 ⟨nA, nc, pA, pc, lA, lc, f, he, ho1, hn1, hg1⟩; obtain rfl : e = .returned (.agg #[.int .i64 (-2), .slice nA 1 nc, .slice pA 0 pc, .slice lA 0 lc]) := he; have HO1 := hide ho1; have HN1 := hide hn1; have HG1 := hide hg1; clear ho1 hn1 hg1; have hrr := blk_keep HBZ.out (HG1.out) (by simp); have HRR := hide hrr; have z0 := blk_frozen hrr 0; have z1 := blk_frozen hrr 1; have z2 := blk_frozen hrr 2; have z3 := blk_frozen hrr 3; have y0 : w1.cell? ⟨w.heap.size + 1, 0, none⟩ = some (.int .i64 0) := (by { rw [blk_cell hrr]; rfl }); have y1 : w1.cell? ⟨w.heap.size + 1, 1, none⟩ = some (.slice none 0 0) := (by { rw [blk_cell hrr]; rfl }); have y2 : w1.cell? ⟨w.heap.size + 1, 2, none⟩ = some (.slice none 0 0) := (by { rw [blk_cell hrr]; rfl }); have y3 : w1.cell? ⟨w.heap.size + 1, 3, none⟩ = some (.slice none 0 0) := (by { rw [blk_cell hrr]; rfl }); clear hrr)
  have HFIN := newT_fin (x := .mk (-2) [-9223372036854775808] [] []) HO1.out HN1.out HG.out HG1.out (Nat.le_succ _) (by have := HSZ.out; have := (HG.out).size; omega)
  obtain ⟨m0, m1, m2, m3⟩ := C4.put HRR.out (.int .i64 (-2)) (.slice nA 1 nc) (.slice pA 0 pc) (.slice lA 0 lc)
  simp only [put4, Nat.zero_add] at m0 m1 m2 m3
  exact bodyPost_ret (v := .tuple #[.agg #[.int .i64 (-2), .slice nA 1 nc, .slice pA 0 pc, .slice lA 0 lc], .int .i64 0]) (by simp [results, Tryz.results33, go_sem, m0, m1, m2, m3]) rfl HFIN
set_option maxHeartbeats 4000000 in
set_option maxRecDepth 100000 in
theorem close6_some (n s sm : Int) (F : Vl) (fA : Option Addr) (fc : Nat) (gA : Option Addr) (gc : Nat) (hA : Option Addr) (hc : Nat) (sA : Option Addr) (sc : Nat) (tA : Option Addr) (tc : Nat) (uA : Option Addr) (uc : Nat) (hs : 0 < s) (q : Int) (hq : ∀ w2, Calls Tryz.prog 91 #[.agg #[.int .i64 (sm / 4294967296), .int .i64 (sm % 4294967296)], .int .i64 s] w2 fun e w' => e = .returned (.int .i64 q) ∧ w2.grownBy w' none) (w : World) : Calls Tryz.prog 33 #[.agg #[.int .i64 6, .int .i64 2, .int .i64 n, .int .i64 s, .int .i64 (sm / 4294967296), .int .i64 (sm % 4294967296), .int .i64 F.t, .slice fA F.n.length fc, .slice gA F.s.length gc, .slice hA F.l.length hc, .int .i64 0, .slice sA 0 sc, .slice tA 0 tc, .slice uA 0 uc, .int .i64 0]] w (TupV (.mk (-2) [q] [] []) w) := by
  obtain ⟨wa, hwa⟩ : ∃ wa, wa = (w.alloc (.cells #[.int .i64 6, .int .i64 2, .int .i64 n, .int .i64 s, .int .i64 (sm / 4294967296), .int .i64 (sm % 4294967296), .int .i64 F.t, .slice fA F.n.length fc, .slice gA F.s.length gc, .slice hA F.l.length hc, .int .i64 0, .slice sA 0 sc, .slice tA 0 tc, .slice uA 0 uc, .int .i64 0] 54)).alloc (.cells #[.int .i64 0, .slice none 0 0, .slice none 0 0, .slice none 0 0] 26) := ⟨_, rfl⟩
  have ha : wa.heap[w.heap.size]? = some (.cells #[.int .i64 6, .int .i64 2, .int .i64 n, .int .i64 s, .int .i64 (sm / 4294967296), .int .i64 (sm % 4294967296), .int .i64 F.t, .slice fA F.n.length fc, .slice gA F.s.length gc, .slice hA F.l.length hc, .int .i64 0, .slice sA 0 sc, .slice tA 0 tc, .slice uA 0 uc, .int .i64 0] 54 (0, 0)) := by rw [hwa]; exact (Below.heap_alloc _ _ _ (by rw [World.size_alloc]; omega)).trans (heap_alloc_new w _)
  have hz : wa.heap[w.heap.size + 1]? = some (.cells #[.int .i64 0, .slice none 0 0, .slice none 0 0, .slice none 0 0] 26 (0, 0)) := by rw [hwa]; have := heap_alloc_new (w.alloc (.cells #[.int .i64 6, .int .i64 2, .int .i64 n, .int .i64 s, .int .i64 (sm / 4294967296), .int .i64 (sm % 4294967296), .int .i64 F.t, .slice fA F.n.length fc, .slice gA F.s.length gc, .slice hA F.l.length hc, .int .i64 0, .slice sA 0 sc, .slice tA 0 tc, .slice uA 0 uc, .int .i64 0] 54)) (.cells #[.int .i64 0, .slice none 0 0, .slice none 0 0, .slice none 0 0] 26); rwa [World.size_alloc] at this
  have HBA := hide ha
  have HBZ := hide hz
  have HSZ := hide (show wa.heap.size = w.heap.size + 2 by rw [hwa]; simp)
  have hga : w.grownBy wa none := by rw [hwa]; exact gb_alloc (gb_alloc (gb_refl w none) _) _
  have HG := hide hga
  have HWE := hide hwa
  have HC := hide (fun w2 => closeAvg_some 6 n s sm F fA fc gA gc hA hc sA sc tA tc uA uc hs q hq w2)
  have a0 : wa.cell? ⟨w.heap.size, 0, none⟩ = some (.int .i64 6) := by rw [blk_cell ha]; rfl
  have a1 : wa.cell? ⟨w.heap.size, 1, none⟩ = some (.int .i64 2) := by rw [blk_cell ha]; rfl
  have a2 : wa.cell? ⟨w.heap.size, 2, none⟩ = some (.int .i64 n) := by rw [blk_cell ha]; rfl
  have a3 : wa.cell? ⟨w.heap.size, 3, none⟩ = some (.int .i64 s) := by rw [blk_cell ha]; rfl
  have a4 : wa.cell? ⟨w.heap.size, 4, none⟩ = some (.int .i64 (sm / 4294967296)) := by rw [blk_cell ha]; rfl
  have a5 : wa.cell? ⟨w.heap.size, 5, none⟩ = some (.int .i64 (sm % 4294967296)) := by rw [blk_cell ha]; rfl
  have a6 : wa.cell? ⟨w.heap.size, 6, none⟩ = some (.int .i64 F.t) := by rw [blk_cell ha]; rfl
  have a7 : wa.cell? ⟨w.heap.size, 7, none⟩ = some (.slice fA F.n.length fc) := by rw [blk_cell ha]; rfl
  have a8 : wa.cell? ⟨w.heap.size, 8, none⟩ = some (.slice gA F.s.length gc) := by rw [blk_cell ha]; rfl
  have a9 : wa.cell? ⟨w.heap.size, 9, none⟩ = some (.slice hA F.l.length hc) := by rw [blk_cell ha]; rfl
  have a10 : wa.cell? ⟨w.heap.size, 10, none⟩ = some (.int .i64 0) := by rw [blk_cell ha]; rfl
  have a11 : wa.cell? ⟨w.heap.size, 11, none⟩ = some (.slice sA 0 sc) := by rw [blk_cell ha]; rfl
  have a12 : wa.cell? ⟨w.heap.size, 12, none⟩ = some (.slice tA 0 tc) := by rw [blk_cell ha]; rfl
  have a13 : wa.cell? ⟨w.heap.size, 13, none⟩ = some (.slice uA 0 uc) := by rw [blk_cell ha]; rfl
  have a14 : wa.cell? ⟨w.heap.size, 14, none⟩ = some (.int .i64 0) := by rw [blk_cell ha]; rfl
  clear ha hz hwa hga hs hq
  go_enter Tryz.func33, Tryz.ntmps33
  go_upto_region 1 with fail
  rw [← HWE.out]
  go_wp2_with (go_at_call 60; refine (HC.out _).mono ?_; rintro e w1 ⟨nA, nc, pA, pc, lA, lc, f, he, ho1, hn1, hg1⟩; obtain rfl : e = .returned (.agg #[.int .i64 (-2), .slice nA 1 nc, .slice pA 0 pc, .slice lA 0 lc]) := he; have HO1 := hide ho1; have HN1 := hide hn1; have HG1 := hide hg1; clear ho1 hn1 hg1; have hrr := blk_keep HBZ.out (HG1.out) (by simp); have HRR := hide hrr; have z0 := blk_frozen hrr 0; have z1 := blk_frozen hrr 1; have z2 := blk_frozen hrr 2; have z3 := blk_frozen hrr 3; have y0 : w1.cell? ⟨w.heap.size + 1, 0, none⟩ = some (.int .i64 0) := (by { rw [blk_cell hrr]; rfl }); have y1 : w1.cell? ⟨w.heap.size + 1, 1, none⟩ = some (.slice none 0 0) := (by { rw [blk_cell hrr]; rfl }); have y2 : w1.cell? ⟨w.heap.size + 1, 2, none⟩ = some (.slice none 0 0) := (by { rw [blk_cell hrr]; rfl }); have y3 : w1.cell? ⟨w.heap.size + 1, 3, none⟩ = some (.slice none 0 0) := (by { rw [blk_cell hrr]; rfl }); clear hrr)
  have HFIN := newT_fin (x := .mk (-2) [q] [] []) HO1.out HN1.out HG.out HG1.out (Nat.le_succ _) (by have := HSZ.out; have := (HG.out).size; omega)
  obtain ⟨m0, m1, m2, m3⟩ := C4.put HRR.out (.int .i64 (-2)) (.slice nA 1 nc) (.slice pA 0 pc) (.slice lA 0 lc)
  simp only [put4, Nat.zero_add] at m0 m1 m2 m3
  exact bodyPost_ret (v := .tuple #[.agg #[.int .i64 (-2), .slice nA 1 nc, .slice pA 0 pc, .slice lA 0 lc], .int .i64 0]) (by simp [results, Tryz.results33, go_sem, m0, m1, m2, m3]) rfl HFIN
set_option maxHeartbeats 4000000 in
set_option maxRecDepth 100000 in
theorem do_val (op n s sm : Int) (F q v : Vl) (h0 : 0 ≤ op) (h6 : op ≤ 6) (w : World) (xA : Option Addr) (xc : Nat) (yA : Option Addr) (yc : Nat) (zA : Option Addr) (zc : Nat)
    (hadd : ∀ w4, w.grownBy w4 none → Calls Tryz.prog 34 #[.agg #[.int .i64 op, .int .i64 (-1), .int .i64 0, .int .i64 0, .int .i64 0, .int .i64 0, .int .i64 0, .slice none 0 0, .slice none 0 0, .slice none 0 0, .int .i64 0, .slice none 0 0, .slice none 0 0, .slice none 0 0, .int .i64 0], .slice (some ⟨w4.heap.size, 0, none⟩) 1 1] (w4.alloc (.cells #[.int .i64 v.t, .slice xA v.n.length xc, .slice yA v.s.length yc, .slice zA v.l.length zc] 26)) (AccC op 2 n s (sm / 4294967296) (sm % 4294967296) 0 F (w4.alloc (.cells #[.int .i64 v.t, .slice xA v.n.length xc, .slice yA v.s.length yc, .slice zA v.l.length zc] 26))))
    (hclo : ∀ (w5 : World) (fA : Option Addr) (fc : Nat) (gA : Option Addr) (gc : Nat) (hA : Option Addr) (hc : Nat) (sA : Option Addr) (sc : Nat) (tA : Option Addr) (tc : Nat) (uA : Option Addr) (uc : Nat) (f : List Nat), VOw w5 F [.int .i64 F.t, .slice fA F.n.length fc, .slice gA F.s.length gc, .slice hA F.l.length hc] f → Calls Tryz.prog 33 #[.agg #[.int .i64 op, .int .i64 2, .int .i64 n, .int .i64 s, .int .i64 (sm / 4294967296), .int .i64 (sm % 4294967296), .int .i64 F.t, .slice fA F.n.length fc, .slice gA F.s.length gc, .slice hA F.l.length hc, .int .i64 0, .slice sA 0 sc, .slice tA 0 tc, .slice uA 0 uc, .int .i64 0]] w5 (TupV q w5)) :
    Calls Tryz.prog 15 #[.int .i64 op, .agg #[.int .i64 v.t, .slice xA v.n.length xc, .slice yA v.s.length yc, .slice zA v.l.length zc]] w (TupV q w) := by
  obtain ⟨wa, hwa⟩ : ∃ wa, wa = (w.alloc (.cells #[.int .i64 v.t, .slice xA v.n.length xc, .slice yA v.s.length yc, .slice zA v.l.length zc] 26)).alloc (.cells #[.int .i64 0, .slice none 0 0, .slice none 0 0, .slice none 0 0] 26) := ⟨_, rfl⟩
  have ha : wa.heap[w.heap.size]? = some (.cells #[.int .i64 v.t, .slice xA v.n.length xc, .slice yA v.s.length yc, .slice zA v.l.length zc] 26 (0, 0)) := by rw [hwa]; exact (Below.heap_alloc _ _ _ (by rw [World.size_alloc]; omega)).trans (heap_alloc_new w _)
  have hz : wa.heap[w.heap.size + 1]? = some (.cells #[.int .i64 0, .slice none 0 0, .slice none 0 0, .slice none 0 0] 26 (0, 0)) := by rw [hwa]; have := heap_alloc_new (w.alloc (.cells #[.int .i64 v.t, .slice xA v.n.length xc, .slice yA v.s.length yc, .slice zA v.l.length zc] 26)) (.cells #[.int .i64 0, .slice none 0 0, .slice none 0 0, .slice none 0 0] 26); rwa [World.size_alloc] at this
  have HBA := hide ha
  have HBZ := hide hz
  have HSZ := hide (show wa.heap.size = w.heap.size + 2 by rw [hwa]; simp)
  have hga : w.grownBy wa none := by rw [hwa]; exact gb_alloc (gb_alloc (gb_refl w none) _) _
  have HG := hide hga
  have HWE := hide hwa
  have HADD := hide hadd
  have HCLO := hide hclo
  have HOP := hide (fun w2 => open8_any op h0 h6 w2)
  have a0 : wa.cell? ⟨w.heap.size, 0, none⟩ = some (.int .i64 v.t) := by rw [blk_cell ha]; rfl
  have a1 : wa.cell? ⟨w.heap.size, 1, none⟩ = some (.slice xA v.n.length xc) := by rw [blk_cell ha]; rfl
  have a2 : wa.cell? ⟨w.heap.size, 2, none⟩ = some (.slice yA v.s.length yc) := by rw [blk_cell ha]; rfl
  have a3 : wa.cell? ⟨w.heap.size, 3, none⟩ = some (.slice zA v.l.length zc) := by rw [blk_cell ha]; rfl
  clear ha hz hwa hga hadd hclo h0 h6
  go_enter Tryz.func15, Tryz.ntmps15
  go_upto_region 1 with fail
  rw [← HWE.out]
  go_upto_region 4 with (go_at_call 32; refine (HOP.out _).mono ?_; rintro e w2 ⟨rfl, hg2⟩; have HG2 := hide hg2; clear hg2 a0 a1 a2 a3)
  obtain ⟨w4, hw4⟩ : ∃ w4, w4 = w2.alloc (.cells #[.int .i64 op, .int .i64 (-1), .int .i64 0, .int .i64 0, .int .i64 0, .int .i64 0, .int .i64 0, .slice none 0 0, .slice none 0 0, .slice none 0 0, .int .i64 0, .slice none 0 0, .slice none 0 0, .slice none 0 0, .int .i64 0] 54) := ⟨_, rfl⟩
  rw [← hw4]
  have hb4 : w4.heap[w2.heap.size]? = some (.cells #[.int .i64 op, .int .i64 (-1), .int .i64 0, .int .i64 0, .int .i64 0, .int .i64 0, .int .i64 0, .slice none 0 0, .slice none 0 0, .slice none 0 0, .int .i64 0, .slice none 0 0, .slice none 0 0, .slice none 0 0, .int .i64 0] 54 (0, 0)) := by rw [hw4]; exact heap_alloc_new w2 _
  have hg4 : wa.grownBy w4 none := by rw [hw4]; exact gb_trans HG2.out (gb_alloc (gb_refl w2 none) _) (.inl rfl)
  have HG4 := hide hg4
  have hba := blk_keep HBA.out hg4 (by simp)
  have a0 : w4.cell? ⟨w.heap.size, 0, none⟩ = some (.int .i64 v.t) := by rw [blk_cell hba]; rfl
  have a1 : w4.cell? ⟨w.heap.size, 1, none⟩ = some (.slice xA v.n.length xc) := by rw [blk_cell hba]; rfl
  have a2 : w4.cell? ⟨w.heap.size, 2, none⟩ = some (.slice yA v.s.length yc) := by rw [blk_cell hba]; rfl
  have a3 : w4.cell? ⟨w.heap.size, 3, none⟩ = some (.slice zA v.l.length zc) := by rw [blk_cell hba]; rfl
  have b0 : w4.cell? ⟨w2.heap.size, 0, none⟩ = some (.int .i64 op) := by rw [blk_cell hb4]; rfl
  have b1 : w4.cell? ⟨w2.heap.size, 1, none⟩ = some (.int .i64 (-1)) := by rw [blk_cell hb4]; rfl
  have b2 : w4.cell? ⟨w2.heap.size, 2, none⟩ = some (.int .i64 0) := by rw [blk_cell hb4]; rfl
  have b3 : w4.cell? ⟨w2.heap.size, 3, none⟩ = some (.int .i64 0) := by rw [blk_cell hb4]; rfl
  have b4 : w4.cell? ⟨w2.heap.size, 4, none⟩ = some (.int .i64 0) := by rw [blk_cell hb4]; rfl
  have b5 : w4.cell? ⟨w2.heap.size, 5, none⟩ = some (.int .i64 0) := by rw [blk_cell hb4]; rfl
  have b6 : w4.cell? ⟨w2.heap.size, 6, none⟩ = some (.int .i64 0) := by rw [blk_cell hb4]; rfl
  have b7 : w4.cell? ⟨w2.heap.size, 7, none⟩ = some (.slice none 0 0) := by rw [blk_cell hb4]; rfl
  have b8 : w4.cell? ⟨w2.heap.size, 8, none⟩ = some (.slice none 0 0) := by rw [blk_cell hb4]; rfl
  have b9 : w4.cell? ⟨w2.heap.size, 9, none⟩ = some (.slice none 0 0) := by rw [blk_cell hb4]; rfl
  have b10 : w4.cell? ⟨w2.heap.size, 10, none⟩ = some (.int .i64 0) := by rw [blk_cell hb4]; rfl
  have b11 : w4.cell? ⟨w2.heap.size, 11, none⟩ = some (.slice none 0 0) := by rw [blk_cell hb4]; rfl
  have b12 : w4.cell? ⟨w2.heap.size, 12, none⟩ = some (.slice none 0 0) := by rw [blk_cell hb4]; rfl
  have b13 : w4.cell? ⟨w2.heap.size, 13, none⟩ = some (.slice none 0 0) := by rw [blk_cell hb4]; rfl
  have b14 : w4.cell? ⟨w2.heap.size, 14, none⟩ = some (.int .i64 0) := by rw [blk_cell hb4]; rfl
  have HAD := hide (HADD.out w4 (gb_trans HG.out hg4 (.inl rfl)))
  clear hw4 hb4 hg4 hba
  go_wp2_with (first
    | (go_at_call 34; refine HAD.out.mono ?_; rintro e w6 ⟨fA, fc, gA, gc, hA, hc, sA, sc, tA, tc, uA, uc, f6, rfl, ho6, _, hg6⟩; have HO6 := hide ho6; have HG6 := hide (gb_trans HG4.out (gb_trans (gb_alloc (gb_refl w4 none) _) hg6 (.inl rfl)) (.inl rfl)); clear ho6 hg6 a0 a1 a2 a3 b0 b1 b2 b3 b4 b5 b6 b7 b8 b9 b10 b11 b12 b13 b14)
    | (go_at_call 33; refine (HCLO.out w6 fA fc gA gc hA hc sA sc tA tc uA uc f6 HO6.out).mono ?_; rintro e w1 ⟨nA, nc, pA, pc, lA, lc, f, rfl, ho1, hn1, hg1⟩; have HO1 := hide ho1; have HN1 := hide hn1; have HG1 := hide hg1; clear ho1 hn1 hg1; have hrr := blk_keep HBZ.out (gb_trans HG6.out HG1.out (.inl rfl)) (by simp); have HRR := hide hrr; have z0 := blk_frozen hrr 0; have z1 := blk_frozen hrr 1; have z2 := blk_frozen hrr 2; have z3 := blk_frozen hrr 3; have y0 : w1.cell? ⟨w.heap.size + 1, 0, none⟩ = some (.int .i64 0) := (by { rw [blk_cell hrr]; rfl }); have y1 : w1.cell? ⟨w.heap.size + 1, 1, none⟩ = some (.slice none 0 0) := (by { rw [blk_cell hrr]; rfl }); have y2 : w1.cell? ⟨w.heap.size + 1, 2, none⟩ = some (.slice none 0 0) := (by { rw [blk_cell hrr]; rfl }); have y3 : w1.cell? ⟨w.heap.size + 1, 3, none⟩ = some (.slice none 0 0) := (by { rw [blk_cell hrr]; rfl }); clear hrr))
  have HFIN := newT_fin HO1.out HN1.out (gb_trans HG.out HG6.out (.inl rfl)) HG1.out (Nat.le_succ _) (by have := HSZ.out; have := HG6.out.size; omega)
  obtain ⟨m0, m1, m2, m3⟩ := C4.put HRR.out (.int .i64 q.t) (.slice nA q.n.length nc) (.slice pA q.s.length pc) (.slice lA q.l.length lc)
  simp only [put4, Nat.zero_add] at m0 m1 m2 m3
  exact bodyPost_ret (v := .tuple #[.agg #[.int .i64 q.t, .slice nA q.n.length nc, .slice pA q.s.length pc, .slice lA q.l.length lc], .int .i64 0]) (by simp [results, Tryz.results15, go_sem, m0, m1, m2, m3]) rfl HFIN
set_option maxHeartbeats 4000000 in
set_option maxRecDepth 100000 in
theorem do_err (op n s sm : Int) (F v : Vl) (h0 : 0 ≤ op) (h6 : op ≤ 6) (w : World) (xA : Option Addr) (xc : Nat) (yA : Option Addr) (yc : Nat) (zA : Option Addr) (zc : Nat)
    (hadd : ∀ w4, w.grownBy w4 none → Calls Tryz.prog 34 #[.agg #[.int .i64 op, .int .i64 (-1), .int .i64 0, .int .i64 0, .int .i64 0, .int .i64 0, .int .i64 0, .slice none 0 0, .slice none 0 0, .slice none 0 0, .int .i64 0, .slice none 0 0, .slice none 0 0, .slice none 0 0, .int .i64 0], .slice (some ⟨w4.heap.size, 0, none⟩) 1 1] (w4.alloc (.cells #[.int .i64 v.t, .slice xA v.n.length xc, .slice yA v.s.length yc, .slice zA v.l.length zc] 26)) (AccC op 2 n s (sm / 4294967296) (sm % 4294967296) 0 F (w4.alloc (.cells #[.int .i64 v.t, .slice xA v.n.length xc, .slice yA v.s.length yc, .slice zA v.l.length zc] 26))))
    (hclo : ∀ (w5 : World) (fA : Option Addr) (fc : Nat) (gA : Option Addr) (gc : Nat) (hA : Option Addr) (hc : Nat) (sA : Option Addr) (sc : Nat) (tA : Option Addr) (tc : Nat) (uA : Option Addr) (uc : Nat) (f : List Nat), VOw w5 F [.int .i64 F.t, .slice fA F.n.length fc, .slice gA F.s.length gc, .slice hA F.l.length hc] f → Calls Tryz.prog 33 #[.agg #[.int .i64 op, .int .i64 2, .int .i64 n, .int .i64 s, .int .i64 (sm / 4294967296), .int .i64 (sm % 4294967296), .int .i64 F.t, .slice fA F.n.length fc, .slice gA F.s.length gc, .slice hA F.l.length hc, .int .i64 0, .slice sA 0 sc, .slice tA 0 tc, .slice uA 0 uc, .int .i64 0]] w5 (fun e w' => e = .returned (.tuple #[.agg #[.int .i64 0, .slice none 0 0, .slice none 0 0, .slice none 0 0], .int .i64 70]) ∧ w5.grownBy w' none)) :
    Calls Tryz.prog 15 #[.int .i64 op, .agg #[.int .i64 v.t, .slice xA v.n.length xc, .slice yA v.s.length yc, .slice zA v.l.length zc]] w (fun e w' => e = .returned (.tuple #[.agg #[.int .i64 0, .slice none 0 0, .slice none 0 0, .slice none 0 0], .int .i64 70]) ∧ w.grownBy w' none) := by
  obtain ⟨wa, hwa⟩ : ∃ wa, wa = (w.alloc (.cells #[.int .i64 v.t, .slice xA v.n.length xc, .slice yA v.s.length yc, .slice zA v.l.length zc] 26)).alloc (.cells #[.int .i64 0, .slice none 0 0, .slice none 0 0, .slice none 0 0] 26) := ⟨_, rfl⟩
  have ha : wa.heap[w.heap.size]? = some (.cells #[.int .i64 v.t, .slice xA v.n.length xc, .slice yA v.s.length yc, .slice zA v.l.length zc] 26 (0, 0)) := by rw [hwa]; exact (Below.heap_alloc _ _ _ (by rw [World.size_alloc]; omega)).trans (heap_alloc_new w _)
  have hz : wa.heap[w.heap.size + 1]? = some (.cells #[.int .i64 0, .slice none 0 0, .slice none 0 0, .slice none 0 0] 26 (0, 0)) := by rw [hwa]; have := heap_alloc_new (w.alloc (.cells #[.int .i64 v.t, .slice xA v.n.length xc, .slice yA v.s.length yc, .slice zA v.l.length zc] 26)) (.cells #[.int .i64 0, .slice none 0 0, .slice none 0 0, .slice none 0 0] 26); rwa [World.size_alloc] at this
  have HBA := hide ha
  have HBZ := hide hz
  have HSZ := hide (show wa.heap.size = w.heap.size + 2 by rw [hwa]; simp)
  have hga : w.grownBy wa none := by rw [hwa]; exact gb_alloc (gb_alloc (gb_refl w none) _) _
  have HG := hide hga
  have HWE := hide hwa
  have HADD := hide hadd
  have HCLO := hide hclo
  have HOP := hide (fun w2 => open8_any op h0 h6 w2)
  have a0 : wa.cell? ⟨w.heap.size, 0, none⟩ = some (.int .i64 v.t) := by rw [blk_cell ha]; rfl
  have a1 : wa.cell? ⟨w.heap.size, 1, none⟩ = some (.slice xA v.n.length xc) := by rw [blk_cell ha]; rfl
  have a2 : wa.cell? ⟨w.heap.size, 2, none⟩ = some (.slice yA v.s.length yc) := by rw [blk_cell ha]; rfl
  have a3 : wa.cell? ⟨w.heap.size, 3, none⟩ = some (.slice zA v.l.length zc) := by rw [blk_cell ha]; rfl
  clear ha hz hwa hga hadd hclo h0 h6
  go_enter Tryz.func15, Tryz.ntmps15
  go_upto_region 1 with fail
  rw [← HWE.out]
  go_upto_region 4 with (go_at_call 32; refine (HOP.out _).mono ?_; rintro e w2 ⟨rfl, hg2⟩; have HG2 := hide hg2; clear hg2 a0 a1 a2 a3)
  obtain ⟨w4, hw4⟩ : ∃ w4, w4 = w2.alloc (.cells #[.int .i64 op, .int .i64 (-1), .int .i64 0, .int .i64 0, .int .i64 0, .int .i64 0, .int .i64 0, .slice none 0 0, .slice none 0 0, .slice none 0 0, .int .i64 0, .slice none 0 0, .slice none 0 0, .slice none 0 0, .int .i64 0] 54) := ⟨_, rfl⟩
  rw [← hw4]
  have hb4 : w4.heap[w2.heap.size]? = some (.cells #[.int .i64 op, .int .i64 (-1), .int .i64 0, .int .i64 0, .int .i64 0, .int .i64 0, .int .i64 0, .slice none 0 0, .slice none 0 0, .slice none 0 0, .int .i64 0, .slice none 0 0, .slice none 0 0, .slice none 0 0, .int .i64 0] 54 (0, 0)) := by rw [hw4]; exact heap_alloc_new w2 _
  have hg4 : wa.grownBy w4 none := by rw [hw4]; exact gb_trans HG2.out (gb_alloc (gb_refl w2 none) _) (.inl rfl)
  have HG4 := hide hg4
  have hba := blk_keep HBA.out hg4 (by simp)
  have a0 : w4.cell? ⟨w.heap.size, 0, none⟩ = some (.int .i64 v.t) := by rw [blk_cell hba]; rfl
  have a1 : w4.cell? ⟨w.heap.size, 1, none⟩ = some (.slice xA v.n.length xc) := by rw [blk_cell hba]; rfl
  have a2 : w4.cell? ⟨w.heap.size, 2, none⟩ = some (.slice yA v.s.length yc) := by rw [blk_cell hba]; rfl
  have a3 : w4.cell? ⟨w.heap.size, 3, none⟩ = some (.slice zA v.l.length zc) := by rw [blk_cell hba]; rfl
  have b0 : w4.cell? ⟨w2.heap.size, 0, none⟩ = some (.int .i64 op) := by rw [blk_cell hb4]; rfl
  have b1 : w4.cell? ⟨w2.heap.size, 1, none⟩ = some (.int .i64 (-1)) := by rw [blk_cell hb4]; rfl
  have b2 : w4.cell? ⟨w2.heap.size, 2, none⟩ = some (.int .i64 0) := by rw [blk_cell hb4]; rfl
  have b3 : w4.cell? ⟨w2.heap.size, 3, none⟩ = some (.int .i64 0) := by rw [blk_cell hb4]; rfl
  have b4 : w4.cell? ⟨w2.heap.size, 4, none⟩ = some (.int .i64 0) := by rw [blk_cell hb4]; rfl
  have b5 : w4.cell? ⟨w2.heap.size, 5, none⟩ = some (.int .i64 0) := by rw [blk_cell hb4]; rfl
  have b6 : w4.cell? ⟨w2.heap.size, 6, none⟩ = some (.int .i64 0) := by rw [blk_cell hb4]; rfl
  have b7 : w4.cell? ⟨w2.heap.size, 7, none⟩ = some (.slice none 0 0) := by rw [blk_cell hb4]; rfl
  have b8 : w4.cell? ⟨w2.heap.size, 8, none⟩ = some (.slice none 0 0) := by rw [blk_cell hb4]; rfl
  have b9 : w4.cell? ⟨w2.heap.size, 9, none⟩ = some (.slice none 0 0) := by rw [blk_cell hb4]; rfl
  have b10 : w4.cell? ⟨w2.heap.size, 10, none⟩ = some (.int .i64 0) := by rw [blk_cell hb4]; rfl
  have b11 : w4.cell? ⟨w2.heap.size, 11, none⟩ = some (.slice none 0 0) := by rw [blk_cell hb4]; rfl
  have b12 : w4.cell? ⟨w2.heap.size, 12, none⟩ = some (.slice none 0 0) := by rw [blk_cell hb4]; rfl
  have b13 : w4.cell? ⟨w2.heap.size, 13, none⟩ = some (.slice none 0 0) := by rw [blk_cell hb4]; rfl
  have b14 : w4.cell? ⟨w2.heap.size, 14, none⟩ = some (.int .i64 0) := by rw [blk_cell hb4]; rfl
  have HAD := hide (HADD.out w4 (gb_trans HG.out hg4 (.inl rfl)))
  clear hw4 hb4 hg4 hba
  go_wp2_with (first
    | (go_at_call 34; refine HAD.out.mono ?_; rintro e w6 ⟨fA, fc, gA, gc, hA, hc, sA, sc, tA, tc, uA, uc, f6, rfl, ho6, _, hg6⟩; have HO6 := hide ho6; have HG6 := hide (gb_trans HG4.out (gb_trans (gb_alloc (gb_refl w4 none) _) hg6 (.inl rfl)) (.inl rfl)); clear ho6 hg6 a0 a1 a2 a3 b0 b1 b2 b3 b4 b5 b6 b7 b8 b9 b10 b11 b12 b13 b14)
    | (go_at_call 33; refine (HCLO.out w6 fA fc gA gc hA hc sA sc tA tc uA uc f6 HO6.out).mono ?_; rintro e w1 ⟨rfl, hg1⟩; have HG1 := hide hg1; clear hg1; have hrr := blk_keep HBZ.out (gb_trans HG6.out HG1.out (.inl rfl)) (by simp); have HRR := hide hrr; have z0 := blk_frozen hrr 0; have z1 := blk_frozen hrr 1; have z2 := blk_frozen hrr 2; have z3 := blk_frozen hrr 3; have y0 : w1.cell? ⟨w.heap.size + 1, 0, none⟩ = some (.int .i64 0) := (by { rw [blk_cell hrr]; rfl }); have y1 : w1.cell? ⟨w.heap.size + 1, 1, none⟩ = some (.slice none 0 0) := (by { rw [blk_cell hrr]; rfl }); have y2 : w1.cell? ⟨w.heap.size + 1, 2, none⟩ = some (.slice none 0 0) := (by { rw [blk_cell hrr]; rfl }); have y3 : w1.cell? ⟨w.heap.size + 1, 3, none⟩ = some (.slice none 0 0) := (by { rw [blk_cell hrr]; rfl }); clear hrr))
  obtain ⟨m0, m1, m2, m3⟩ := C4.put HRR.out (.int .i64 0) (.slice none 0 0) (.slice none 0 0) (.slice none 0 0)
  simp only [put4, Nat.zero_add] at m0 m1 m2 m3
  exact bodyPost_ret (v := .tuple #[.agg #[.int .i64 0, .slice none 0 0, .slice none 0 0, .slice none 0 0], .int .i64 70]) (by simp [results, Tryz.results15, go_sem, m0, m1, m2, m3]) rfl ⟨rfl, put_four_gb (gb_trans HG.out (gb_trans HG6.out HG1.out (.inl rfl)) (.inl rfl)) (Nat.le_succ _) _ _ _ _⟩
end Go.Proofs.YtgepejnooghjbaaGreat
