/-
  agg.follow of an Acc to which nothing has come and a piece.
-/
import Derived.Test.YtgepejnooghjbaaGreatQam
import Derived.Test.YtgepejnooghjbaaGreatQar

namespace Go.Proofs.YtgepejnooghjbaaGreat
open Go.RowKit
attribute [local go_sem ↓] Go.wp_at_zero Go.wp_at_succ

set_option maxHeartbeats 4000000 in
set_option maxRecDepth 100000 in
theorem follow_first (op n s sm : Int) (e1 : (op == 1) = false) (e2 : (op == 2) = false) (hn : 0 ≤ n ∧ n ≤ 1100000) (hsn : 0 ≤ s ∧ s ≤ 1100000) (hsm : Sum64 sm) (ft : Int) (fA : Option Addr) (fl fc : Nat) (gA : Option Addr) (gl gc : Nat) (hA : Option Addr) (hl hc : Nat) (hsu : ∀ (w : World), Calls Tryz.prog 92 #[.agg #[.int .i64 op, .int .i64 2, .int .i64 n, .int .i64 s, .int .i64 (sm / 4294967296), .int .i64 (sm % 4294967296), .int .i64 ft, .slice fA fl fc, .slice gA gl gc, .slice hA hl hc, .int .i64 0, .slice none 0 0, .slice none 0 0, .slice none 0 0, .int .i64 0], .agg #[.int .i64 op, .int .i64 (-1), .int .i64 0, .int .i64 0, .int .i64 0, .int .i64 0, .int .i64 0, .slice none 0 0, .slice none 0 0, .slice none 0 0, .int .i64 0, .slice none 0 0, .slice none 0 0, .slice none 0 0, .int .i64 0]] w fun e w' => e = .returned (.bool true) ∧ w.grownBy w' none) (w : World) : Calls Tryz.prog 61 #[.agg #[.int .i64 op, .int .i64 (-1), .int .i64 0, .int .i64 0, .int .i64 0, .int .i64 0, .int .i64 0, .slice none 0 0, .slice none 0 0, .slice none 0 0, .int .i64 0, .slice none 0 0, .slice none 0 0, .slice none 0 0, .int .i64 0], .agg #[.int .i64 op, .int .i64 2, .int .i64 n, .int .i64 s, .int .i64 (sm / 4294967296), .int .i64 (sm % 4294967296), .int .i64 ft, .slice fA fl fc, .slice gA gl gc, .slice hA hl hc, .int .i64 0, .slice none 0 0, .slice none 0 0, .slice none 0 0, .int .i64 0]] w fun e w' => e = .returned (.agg #[.int .i64 op, .int .i64 2, .int .i64 n, .int .i64 s, .int .i64 (sm / 4294967296), .int .i64 (sm % 4294967296), .int .i64 ft, .slice fA fl fc, .slice gA gl gc, .slice hA hl hc, .int .i64 0, .slice none 0 0, .slice none 0 0, .slice none 0 0, .int .i64 0]) ∧ w.grownBy w' none := by
  obtain ⟨wa, hwa⟩ : ∃ wa, wa = ((w.alloc (.cells #[.int .i64 op, .int .i64 (-1), .int .i64 0, .int .i64 0, .int .i64 0, .int .i64 0, .int .i64 0, .slice none 0 0, .slice none 0 0, .slice none 0 0, .int .i64 0, .slice none 0 0, .slice none 0 0, .slice none 0 0, .int .i64 0] 54)).alloc (.cells #[.int .i64 op, .int .i64 2, .int .i64 n, .int .i64 s, .int .i64 (sm / 4294967296), .int .i64 (sm % 4294967296), .int .i64 ft, .slice fA fl fc, .slice gA gl gc, .slice hA hl hc, .int .i64 0, .slice none 0 0, .slice none 0 0, .slice none 0 0, .int .i64 0] 54)).alloc (.cells #[.int .i64 0, .int .i64 0, .int .i64 0, .int .i64 0, .int .i64 0, .int .i64 0, .int .i64 0, .slice none 0 0, .slice none 0 0, .slice none 0 0, .int .i64 0, .slice none 0 0, .slice none 0 0, .slice none 0 0, .int .i64 0] 54) := ⟨_, rfl⟩
  have ha : wa.heap[w.heap.size]? = some (.cells #[.int .i64 op, .int .i64 (-1), .int .i64 0, .int .i64 0, .int .i64 0, .int .i64 0, .int .i64 0, .slice none 0 0, .slice none 0 0, .slice none 0 0, .int .i64 0, .slice none 0 0, .slice none 0 0, .slice none 0 0, .int .i64 0] 54 (0, 0)) := by rw [hwa]; exact (Below.heap_alloc _ _ _ (by rw [World.size_alloc, World.size_alloc]; omega)).trans ((Below.heap_alloc _ _ _ (by rw [World.size_alloc]; omega)).trans (heap_alloc_new w _))
  have hb : wa.heap[w.heap.size + 1]? = some (.cells #[.int .i64 op, .int .i64 2, .int .i64 n, .int .i64 s, .int .i64 (sm / 4294967296), .int .i64 (sm % 4294967296), .int .i64 ft, .slice fA fl fc, .slice gA gl gc, .slice hA hl hc, .int .i64 0, .slice none 0 0, .slice none 0 0, .slice none 0 0, .int .i64 0] 54 (0, 0)) := by rw [hwa]; refine (Below.heap_alloc _ _ _ (by rw [World.size_alloc, World.size_alloc]; omega)).trans ?_; have := heap_alloc_new (w.alloc (.cells #[.int .i64 op, .int .i64 (-1), .int .i64 0, .int .i64 0, .int .i64 0, .int .i64 0, .int .i64 0, .slice none 0 0, .slice none 0 0, .slice none 0 0, .int .i64 0, .slice none 0 0, .slice none 0 0, .slice none 0 0, .int .i64 0] 54)) (.cells #[.int .i64 op, .int .i64 2, .int .i64 n, .int .i64 s, .int .i64 (sm / 4294967296), .int .i64 (sm % 4294967296), .int .i64 ft, .slice fA fl fc, .slice gA gl gc, .slice hA hl hc, .int .i64 0, .slice none 0 0, .slice none 0 0, .slice none 0 0, .int .i64 0] 54); rwa [World.size_alloc] at this
  have hz : wa.heap[w.heap.size + 1 + 1]? = some (.cells #[.int .i64 0, .int .i64 0, .int .i64 0, .int .i64 0, .int .i64 0, .int .i64 0, .int .i64 0, .slice none 0 0, .slice none 0 0, .slice none 0 0, .int .i64 0, .slice none 0 0, .slice none 0 0, .slice none 0 0, .int .i64 0] 54 (0, 0)) := by rw [hwa]; have := heap_alloc_new ((w.alloc (.cells #[.int .i64 op, .int .i64 (-1), .int .i64 0, .int .i64 0, .int .i64 0, .int .i64 0, .int .i64 0, .slice none 0 0, .slice none 0 0, .slice none 0 0, .int .i64 0, .slice none 0 0, .slice none 0 0, .slice none 0 0, .int .i64 0] 54)).alloc (.cells #[.int .i64 op, .int .i64 2, .int .i64 n, .int .i64 s, .int .i64 (sm / 4294967296), .int .i64 (sm % 4294967296), .int .i64 ft, .slice fA fl fc, .slice gA gl gc, .slice hA hl hc, .int .i64 0, .slice none 0 0, .slice none 0 0, .slice none 0 0, .int .i64 0] 54)) (.cells #[.int .i64 0, .int .i64 0, .int .i64 0, .int .i64 0, .int .i64 0, .int .i64 0, .int .i64 0, .slice none 0 0, .slice none 0 0, .slice none 0 0, .int .i64 0, .slice none 0 0, .slice none 0 0, .slice none 0 0, .int .i64 0] 54); rwa [World.size_alloc, World.size_alloc] at this
  have HBA := hide ha
  have HB := hide hb
  have HZ := hide hz
  have HG := hide (show w.grownBy wa none by rw [hwa]; exact gb_alloc (gb_alloc (gb_alloc (gb_refl w none) _) _) _)
  have HWE := hide hwa
  have HSU := hide hsu
  have HPL := hide (fun w2 => (show Calls Tryz.prog 42 #[.agg #[.int .i64 0, .int .i64 0], .agg #[.int .i64 (sm / 4294967296), .int .i64 (sm % 4294967296)]] w2 fun e w' => e = .returned (.agg #[.int .i64 (sm / 4294967296), .int .i64 (sm % 4294967296)]) ∧ w2.grownBy w' none by
    have := plus_any 0 sm (by rw [Int.zero_add]; exact hsm) w2
    rwa [Int.zero_add] at this))
  have hn1 : IntKind.i64.wrap n = n := by rw [IntKind.wrap_i64]; omega
  have hs1 : IntKind.i64.wrap s = s := by rw [IntKind.wrap_i64]; omega
  have a0 : wa.cell? ⟨w.heap.size, 0, none⟩ = some (.int .i64 op) := by rw [blk_cell ha]; rfl
  have a1 : wa.cell? ⟨w.heap.size, 1, none⟩ = some (.int .i64 (-1)) := by rw [blk_cell ha]; rfl
  have a2 : wa.cell? ⟨w.heap.size, 2, none⟩ = some (.int .i64 0) := by rw [blk_cell ha]; rfl
  have a3 : wa.cell? ⟨w.heap.size, 3, none⟩ = some (.int .i64 0) := by rw [blk_cell ha]; rfl
  have a4 : wa.cell? ⟨w.heap.size, 4, none⟩ = some (.int .i64 0) := by rw [blk_cell ha]; rfl
  have a5 : wa.cell? ⟨w.heap.size, 5, none⟩ = some (.int .i64 0) := by rw [blk_cell ha]; rfl
  have a6 : wa.cell? ⟨w.heap.size, 6, none⟩ = some (.int .i64 0) := by rw [blk_cell ha]; rfl
  have a7 : wa.cell? ⟨w.heap.size, 7, none⟩ = some (.slice none 0 0) := by rw [blk_cell ha]; rfl
  have a8 : wa.cell? ⟨w.heap.size, 8, none⟩ = some (.slice none 0 0) := by rw [blk_cell ha]; rfl
  have a9 : wa.cell? ⟨w.heap.size, 9, none⟩ = some (.slice none 0 0) := by rw [blk_cell ha]; rfl
  have a10 : wa.cell? ⟨w.heap.size, 10, none⟩ = some (.int .i64 0) := by rw [blk_cell ha]; rfl
  have a11 : wa.cell? ⟨w.heap.size, 11, none⟩ = some (.slice none 0 0) := by rw [blk_cell ha]; rfl
  have a12 : wa.cell? ⟨w.heap.size, 12, none⟩ = some (.slice none 0 0) := by rw [blk_cell ha]; rfl
  have a13 : wa.cell? ⟨w.heap.size, 13, none⟩ = some (.slice none 0 0) := by rw [blk_cell ha]; rfl
  have a14 : wa.cell? ⟨w.heap.size, 14, none⟩ = some (.int .i64 0) := by rw [blk_cell ha]; rfl
  have b0 : wa.cell? ⟨(w.heap.size + 1), 0, none⟩ = some (.int .i64 op) := by rw [blk_cell hb]; rfl
  have b1 : wa.cell? ⟨(w.heap.size + 1), 1, none⟩ = some (.int .i64 2) := by rw [blk_cell hb]; rfl
  have b2 : wa.cell? ⟨(w.heap.size + 1), 2, none⟩ = some (.int .i64 n) := by rw [blk_cell hb]; rfl
  have b3 : wa.cell? ⟨(w.heap.size + 1), 3, none⟩ = some (.int .i64 s) := by rw [blk_cell hb]; rfl
  have b4 : wa.cell? ⟨(w.heap.size + 1), 4, none⟩ = some (.int .i64 (sm / 4294967296)) := by rw [blk_cell hb]; rfl
  have b5 : wa.cell? ⟨(w.heap.size + 1), 5, none⟩ = some (.int .i64 (sm % 4294967296)) := by rw [blk_cell hb]; rfl
  have b6 : wa.cell? ⟨(w.heap.size + 1), 6, none⟩ = some (.int .i64 ft) := by rw [blk_cell hb]; rfl
  have b7 : wa.cell? ⟨(w.heap.size + 1), 7, none⟩ = some (.slice fA fl fc) := by rw [blk_cell hb]; rfl
  have b8 : wa.cell? ⟨(w.heap.size + 1), 8, none⟩ = some (.slice gA gl gc) := by rw [blk_cell hb]; rfl
  have b9 : wa.cell? ⟨(w.heap.size + 1), 9, none⟩ = some (.slice hA hl hc) := by rw [blk_cell hb]; rfl
  have b10 : wa.cell? ⟨(w.heap.size + 1), 10, none⟩ = some (.int .i64 0) := by rw [blk_cell hb]; rfl
  have b11 : wa.cell? ⟨(w.heap.size + 1), 11, none⟩ = some (.slice none 0 0) := by rw [blk_cell hb]; rfl
  have b12 : wa.cell? ⟨(w.heap.size + 1), 12, none⟩ = some (.slice none 0 0) := by rw [blk_cell hb]; rfl
  have b13 : wa.cell? ⟨(w.heap.size + 1), 13, none⟩ = some (.slice none 0 0) := by rw [blk_cell hb]; rfl
  have b14 : wa.cell? ⟨(w.heap.size + 1), 14, none⟩ = some (.int .i64 0) := by rw [blk_cell hb]; rfl
  clear hwa ha hb hz hn hsn hsm hsu
  go_enter Tryz.func61, Tryz.ntmps61
  go_upto_region 1 with fail
  rw [← HWE.out]
  go_upto_region 16 with (go_at_call 92; refine (HSU.out _).mono ?_; rintro e w1 ⟨rfl, hg1⟩; have HG1 := hide hg1; clear hg1 a0 a1 a2 a3 a4 a5 a6 a7 a8 a9 a10 a11 a12 a13 a14 b0 b1 b2 b3 b4 b5 b6 b7 b8 b9 b10 b11 b12 b13 b14; have ha1 := blk_keep HBA.out HG1.out (by simp); have hb1 := blk_keep HB.out HG1.out (by simp); have HBA1 := hide ha1; have a0 : w1.cell? ⟨w.heap.size, 0, none⟩ = some (.int .i64 op) := (by { rw [blk_cell ha1]; rfl }); have a1 : w1.cell? ⟨w.heap.size, 1, none⟩ = some (.int .i64 (-1)) := (by { rw [blk_cell ha1]; rfl }); have a2 : w1.cell? ⟨w.heap.size, 2, none⟩ = some (.int .i64 0) := (by { rw [blk_cell ha1]; rfl }); have a3 : w1.cell? ⟨w.heap.size, 3, none⟩ = some (.int .i64 0) := (by { rw [blk_cell ha1]; rfl }); have a4 : w1.cell? ⟨w.heap.size, 4, none⟩ = some (.int .i64 0) := (by { rw [blk_cell ha1]; rfl }); have a5 : w1.cell? ⟨w.heap.size, 5, none⟩ = some (.int .i64 0) := (by { rw [blk_cell ha1]; rfl }); have a6 : w1.cell? ⟨w.heap.size, 6, none⟩ = some (.int .i64 0) := (by { rw [blk_cell ha1]; rfl }); have a7 : w1.cell? ⟨w.heap.size, 7, none⟩ = some (.slice none 0 0) := (by { rw [blk_cell ha1]; rfl }); have a8 : w1.cell? ⟨w.heap.size, 8, none⟩ = some (.slice none 0 0) := (by { rw [blk_cell ha1]; rfl }); have a9 : w1.cell? ⟨w.heap.size, 9, none⟩ = some (.slice none 0 0) := (by { rw [blk_cell ha1]; rfl }); have a10 : w1.cell? ⟨w.heap.size, 10, none⟩ = some (.int .i64 0) := (by { rw [blk_cell ha1]; rfl }); have a11 : w1.cell? ⟨w.heap.size, 11, none⟩ = some (.slice none 0 0) := (by { rw [blk_cell ha1]; rfl }); have a12 : w1.cell? ⟨w.heap.size, 12, none⟩ = some (.slice none 0 0) := (by { rw [blk_cell ha1]; rfl }); have a13 : w1.cell? ⟨w.heap.size, 13, none⟩ = some (.slice none 0 0) := (by { rw [blk_cell ha1]; rfl }); have a14 : w1.cell? ⟨w.heap.size, 14, none⟩ = some (.int .i64 0) := (by { rw [blk_cell ha1]; rfl }); have c0 := blk_frozen ha1 0; have c1 := blk_frozen ha1 1; have c2 := blk_frozen ha1 2; have c3 := blk_frozen ha1 3; have c4 := blk_frozen ha1 4; have c5 := blk_frozen ha1 5; have c6 := blk_frozen ha1 6; have c7 := blk_frozen ha1 7; have c8 := blk_frozen ha1 8; have c9 := blk_frozen ha1 9; have c10 := blk_frozen ha1 10; have c11 := blk_frozen ha1 11; have c12 := blk_frozen ha1 12; have c13 := blk_frozen ha1 13; have c14 := blk_frozen ha1 14; have b0 : w1.cell? ⟨(w.heap.size + 1), 0, none⟩ = some (.int .i64 op) := (by { rw [blk_cell hb1]; rfl }); have b1 : w1.cell? ⟨(w.heap.size + 1), 1, none⟩ = some (.int .i64 2) := (by { rw [blk_cell hb1]; rfl }); have b2 : w1.cell? ⟨(w.heap.size + 1), 2, none⟩ = some (.int .i64 n) := (by { rw [blk_cell hb1]; rfl }); have b3 : w1.cell? ⟨(w.heap.size + 1), 3, none⟩ = some (.int .i64 s) := (by { rw [blk_cell hb1]; rfl }); have b4 : w1.cell? ⟨(w.heap.size + 1), 4, none⟩ = some (.int .i64 (sm / 4294967296)) := (by { rw [blk_cell hb1]; rfl }); have b5 : w1.cell? ⟨(w.heap.size + 1), 5, none⟩ = some (.int .i64 (sm % 4294967296)) := (by { rw [blk_cell hb1]; rfl }); have b6 : w1.cell? ⟨(w.heap.size + 1), 6, none⟩ = some (.int .i64 ft) := (by { rw [blk_cell hb1]; rfl }); have b7 : w1.cell? ⟨(w.heap.size + 1), 7, none⟩ = some (.slice fA fl fc) := (by { rw [blk_cell hb1]; rfl }); have b8 : w1.cell? ⟨(w.heap.size + 1), 8, none⟩ = some (.slice gA gl gc) := (by { rw [blk_cell hb1]; rfl }); have b9 : w1.cell? ⟨(w.heap.size + 1), 9, none⟩ = some (.slice hA hl hc) := (by { rw [blk_cell hb1]; rfl }); have b10 : w1.cell? ⟨(w.heap.size + 1), 10, none⟩ = some (.int .i64 0) := (by { rw [blk_cell hb1]; rfl }); have b11 : w1.cell? ⟨(w.heap.size + 1), 11, none⟩ = some (.slice none 0 0) := (by { rw [blk_cell hb1]; rfl }); have b12 : w1.cell? ⟨(w.heap.size + 1), 12, none⟩ = some (.slice none 0 0) := (by { rw [blk_cell hb1]; rfl }); have b13 : w1.cell? ⟨(w.heap.size + 1), 13, none⟩ = some (.slice none 0 0) := (by { rw [blk_cell hb1]; rfl }); have b14 : w1.cell? ⟨(w.heap.size + 1), 14, none⟩ = some (.int .i64 0) := (by { rw [blk_cell hb1]; rfl }); clear ha1 hb1)
  obtain ⟨w2, hw2⟩ : ∃ w2, w2 = ((((w1.setCell ⟨w.heap.size, 6, none⟩ (.int .i64 ft)).setCell ⟨w.heap.size, 7, none⟩ (.slice fA fl fc)).setCell ⟨w.heap.size, 8, none⟩ (.slice gA gl gc)).setCell ⟨w.heap.size, 9, none⟩ (.slice hA hl hc)) := ⟨_, rfl⟩
  rw [← hw2]
  have ha2 : w2.heap[w.heap.size]? = some (.cells #[.int .i64 op, .int .i64 (-1), .int .i64 0, .int .i64 0, .int .i64 0, .int .i64 0, .int .i64 ft, .slice fA fl fc, .slice gA gl gc, .slice hA hl hc, .int .i64 0, .slice none 0 0, .slice none 0 0, .slice none 0 0, .int .i64 0] 54 (0, 0)) := by rw [hw2]; exact blk_set (blk_set (blk_set (blk_set HBA1.out 6 _) 7 _) 8 _) 9 _
  have HBA2 := hide ha2
  have HR2 := hide (show w1.grownBy w2 (some w.heap.size) by rw [hw2]; exact gb_setCell (gb_setCell (gb_setCell (gb_setCell (gb_refl w1 (some w.heap.size)) (.inl rfl) _) (.inl rfl) _) (.inl rfl) _) (.inl rfl) _)
  clear hw2 a0 a1 a2 a3 a4 a5 a6 a7 a8 a9 a10 a11 a12 a13 a14 c0 c1 c2 c3 c4 c5 c6 c7 c8 c9 c10 c11 c12 c13 c14 b0 b1 b2 b3 b4 b5 b6 b7 b8 b9 b10 b11 b12 b13 b14
  have hb2 := blk_keep (blk_keep HB.out HG1.out (by simp)) HR2.out (by intro e; injection e with e; omega)
  have hz2 := blk_keep (blk_keep HZ.out HG1.out (by simp)) HR2.out (by intro e; injection e with e; omega)
  have HB2 := hide hb2
  have HZ2 := hide hz2
  have a0 : w2.cell? ⟨w.heap.size, 0, none⟩ = some (.int .i64 op) := by rw [blk_cell ha2]; rfl
  have a1 : w2.cell? ⟨w.heap.size, 1, none⟩ = some (.int .i64 (-1)) := by rw [blk_cell ha2]; rfl
  have a2 : w2.cell? ⟨w.heap.size, 2, none⟩ = some (.int .i64 0) := by rw [blk_cell ha2]; rfl
  have a3 : w2.cell? ⟨w.heap.size, 3, none⟩ = some (.int .i64 0) := by rw [blk_cell ha2]; rfl
  have a4 : w2.cell? ⟨w.heap.size, 4, none⟩ = some (.int .i64 0) := by rw [blk_cell ha2]; rfl
  have a5 : w2.cell? ⟨w.heap.size, 5, none⟩ = some (.int .i64 0) := by rw [blk_cell ha2]; rfl
  have a6 : w2.cell? ⟨w.heap.size, 6, none⟩ = some (.int .i64 ft) := by rw [blk_cell ha2]; rfl
  have a7 : w2.cell? ⟨w.heap.size, 7, none⟩ = some (.slice fA fl fc) := by rw [blk_cell ha2]; rfl
  have a8 : w2.cell? ⟨w.heap.size, 8, none⟩ = some (.slice gA gl gc) := by rw [blk_cell ha2]; rfl
  have a9 : w2.cell? ⟨w.heap.size, 9, none⟩ = some (.slice hA hl hc) := by rw [blk_cell ha2]; rfl
  have a10 : w2.cell? ⟨w.heap.size, 10, none⟩ = some (.int .i64 0) := by rw [blk_cell ha2]; rfl
  have a11 : w2.cell? ⟨w.heap.size, 11, none⟩ = some (.slice none 0 0) := by rw [blk_cell ha2]; rfl
  have a12 : w2.cell? ⟨w.heap.size, 12, none⟩ = some (.slice none 0 0) := by rw [blk_cell ha2]; rfl
  have a13 : w2.cell? ⟨w.heap.size, 13, none⟩ = some (.slice none 0 0) := by rw [blk_cell ha2]; rfl
  have a14 : w2.cell? ⟨w.heap.size, 14, none⟩ = some (.int .i64 0) := by rw [blk_cell ha2]; rfl
  have c0 := blk_frozen ha2 0
  have c1 := blk_frozen ha2 1
  have c2 := blk_frozen ha2 2
  have c3 := blk_frozen ha2 3
  have c4 := blk_frozen ha2 4
  have c5 := blk_frozen ha2 5
  have c6 := blk_frozen ha2 6
  have c7 := blk_frozen ha2 7
  have c8 := blk_frozen ha2 8
  have c9 := blk_frozen ha2 9
  have c10 := blk_frozen ha2 10
  have c11 := blk_frozen ha2 11
  have c12 := blk_frozen ha2 12
  have c13 := blk_frozen ha2 13
  have c14 := blk_frozen ha2 14
  have b0 : w2.cell? ⟨(w.heap.size + 1), 0, none⟩ = some (.int .i64 op) := by rw [blk_cell hb2]; rfl
  have b1 : w2.cell? ⟨(w.heap.size + 1), 1, none⟩ = some (.int .i64 2) := by rw [blk_cell hb2]; rfl
  have b2 : w2.cell? ⟨(w.heap.size + 1), 2, none⟩ = some (.int .i64 n) := by rw [blk_cell hb2]; rfl
  have b3 : w2.cell? ⟨(w.heap.size + 1), 3, none⟩ = some (.int .i64 s) := by rw [blk_cell hb2]; rfl
  have b4 : w2.cell? ⟨(w.heap.size + 1), 4, none⟩ = some (.int .i64 (sm / 4294967296)) := by rw [blk_cell hb2]; rfl
  have b5 : w2.cell? ⟨(w.heap.size + 1), 5, none⟩ = some (.int .i64 (sm % 4294967296)) := by rw [blk_cell hb2]; rfl
  have b6 : w2.cell? ⟨(w.heap.size + 1), 6, none⟩ = some (.int .i64 ft) := by rw [blk_cell hb2]; rfl
  have b7 : w2.cell? ⟨(w.heap.size + 1), 7, none⟩ = some (.slice fA fl fc) := by rw [blk_cell hb2]; rfl
  have b8 : w2.cell? ⟨(w.heap.size + 1), 8, none⟩ = some (.slice gA gl gc) := by rw [blk_cell hb2]; rfl
  have b9 : w2.cell? ⟨(w.heap.size + 1), 9, none⟩ = some (.slice hA hl hc) := by rw [blk_cell hb2]; rfl
  have b10 : w2.cell? ⟨(w.heap.size + 1), 10, none⟩ = some (.int .i64 0) := by rw [blk_cell hb2]; rfl
  have b11 : w2.cell? ⟨(w.heap.size + 1), 11, none⟩ = some (.slice none 0 0) := by rw [blk_cell hb2]; rfl
  have b12 : w2.cell? ⟨(w.heap.size + 1), 12, none⟩ = some (.slice none 0 0) := by rw [blk_cell hb2]; rfl
  have b13 : w2.cell? ⟨(w.heap.size + 1), 13, none⟩ = some (.slice none 0 0) := by rw [blk_cell hb2]; rfl
  have b14 : w2.cell? ⟨(w.heap.size + 1), 14, none⟩ = some (.int .i64 0) := by rw [blk_cell hb2]; rfl
  clear hb2 ha2 hz2
  have HW2 := hide (gb_trans (gb_trans HG.out HG1.out (.inl rfl)) HR2.out (.inr (.inr ⟨_, rfl, Nat.le_refl _⟩)))
  go_upto_region 19 with (go_at_call 42; refine (HPL.out _).mono ?_; rintro e w3 ⟨rfl, hg3⟩; have HG3 := hide hg3; clear hg3 a0 a1 a2 a3 a4 a5 a6 a7 a8 a9 a10 a11 a12 a13 a14 b0 b1 b2 b3 b4 b5 b6 b7 b8 b9 b10 b11 b12 b13 b14 c0 c1 c2 c3 c4 c5 c6 c7 c8 c9 c10 c11 c12 c13 c14)
  obtain ⟨w4, hw4⟩ : ∃ w4, w4 = w3.alloc (.cells #[.int .i64 (sm / 4294967296), .int .i64 (sm % 4294967296)] 65) := ⟨_, rfl⟩
  rw [← hw4]
  have ht4 : w4.heap[w3.heap.size]? = some (.cells #[.int .i64 (sm / 4294967296), .int .i64 (sm % 4294967296)] 65 (0, 0)) := by rw [hw4]; exact heap_alloc_new w3 _
  have HG4 := hide (show w2.grownBy w4 none by rw [hw4]; exact gb_trans HG3.out (gb_alloc (gb_refl w3 none) _) (.inl rfl))
  clear hw4
  have s0 : w4.cell? ⟨w3.heap.size, 0, none⟩ = some (.int .i64 (sm / 4294967296)) := by rw [blk_cell ht4]; rfl
  have s1 : w4.cell? ⟨w3.heap.size, 1, none⟩ = some (.int .i64 (sm % 4294967296)) := by rw [blk_cell ht4]; rfl
  have ha4 := blk_keep HBA2.out HG4.out (by simp)
  have HBA4 := hide ha4
  have a0 : w4.cell? ⟨w.heap.size, 0, none⟩ = some (.int .i64 op) := by rw [blk_cell ha4]; rfl
  have a1 : w4.cell? ⟨w.heap.size, 1, none⟩ = some (.int .i64 (-1)) := by rw [blk_cell ha4]; rfl
  have a2 : w4.cell? ⟨w.heap.size, 2, none⟩ = some (.int .i64 0) := by rw [blk_cell ha4]; rfl
  have a3 : w4.cell? ⟨w.heap.size, 3, none⟩ = some (.int .i64 0) := by rw [blk_cell ha4]; rfl
  have a4 : w4.cell? ⟨w.heap.size, 4, none⟩ = some (.int .i64 0) := by rw [blk_cell ha4]; rfl
  have a5 : w4.cell? ⟨w.heap.size, 5, none⟩ = some (.int .i64 0) := by rw [blk_cell ha4]; rfl
  have a6 : w4.cell? ⟨w.heap.size, 6, none⟩ = some (.int .i64 ft) := by rw [blk_cell ha4]; rfl
  have a7 : w4.cell? ⟨w.heap.size, 7, none⟩ = some (.slice fA fl fc) := by rw [blk_cell ha4]; rfl
  have a8 : w4.cell? ⟨w.heap.size, 8, none⟩ = some (.slice gA gl gc) := by rw [blk_cell ha4]; rfl
  have a9 : w4.cell? ⟨w.heap.size, 9, none⟩ = some (.slice hA hl hc) := by rw [blk_cell ha4]; rfl
  have a10 : w4.cell? ⟨w.heap.size, 10, none⟩ = some (.int .i64 0) := by rw [blk_cell ha4]; rfl
  have a11 : w4.cell? ⟨w.heap.size, 11, none⟩ = some (.slice none 0 0) := by rw [blk_cell ha4]; rfl
  have a12 : w4.cell? ⟨w.heap.size, 12, none⟩ = some (.slice none 0 0) := by rw [blk_cell ha4]; rfl
  have a13 : w4.cell? ⟨w.heap.size, 13, none⟩ = some (.slice none 0 0) := by rw [blk_cell ha4]; rfl
  have a14 : w4.cell? ⟨w.heap.size, 14, none⟩ = some (.int .i64 0) := by rw [blk_cell ha4]; rfl
  have c0 := blk_frozen ha4 0
  have c1 := blk_frozen ha4 1
  have c2 := blk_frozen ha4 2
  have c3 := blk_frozen ha4 3
  have c4 := blk_frozen ha4 4
  have c5 := blk_frozen ha4 5
  have c6 := blk_frozen ha4 6
  have c7 := blk_frozen ha4 7
  have c8 := blk_frozen ha4 8
  have c9 := blk_frozen ha4 9
  have c10 := blk_frozen ha4 10
  have c11 := blk_frozen ha4 11
  have c12 := blk_frozen ha4 12
  have c13 := blk_frozen ha4 13
  have c14 := blk_frozen ha4 14
  clear ht4 ha4
  go_cut [] (fun wd => (wd.heap[w.heap.size]? = some (.cells #[.int .i64 op, .int .i64 (-1), .int .i64 0, .int .i64 0, .int .i64 (sm / 4294967296), .int .i64 (sm % 4294967296), .int .i64 ft, .slice fA fl fc, .slice gA gl gc, .slice hA hl hc, .int .i64 0, .slice none 0 0, .slice none 0 0, .slice none 0 0, .int .i64 0] 54 (0, 0)) ∧ wd.heap[w.heap.size + 1]? = some (.cells #[.int .i64 op, .int .i64 2, .int .i64 n, .int .i64 s, .int .i64 (sm / 4294967296), .int .i64 (sm % 4294967296), .int .i64 ft, .slice fA fl fc, .slice gA gl gc, .slice hA hl hc, .int .i64 0, .slice none 0 0, .slice none 0 0, .slice none 0 0, .int .i64 0] 54 (0, 0)) ∧ wd.heap[w.heap.size + 1 + 1]? = some (.cells #[.int .i64 0, .int .i64 0, .int .i64 0, .int .i64 0, .int .i64 0, .int .i64 0, .int .i64 0, .slice none 0 0, .slice none 0 0, .slice none 0 0, .int .i64 0, .slice none 0 0, .slice none 0 0, .slice none 0 0, .int .i64 0] 54 (0, 0))) ∧ w.grownBy wd none)
  case first =>
    go_region_law (fail)
    all_goals
      go_wp2_with fail
      go_meet
      case rel =>
        refine ⟨⟨blk_set (blk_set HBA4.out 4 _) 5 _, ?_, ?_⟩, ?_⟩
        · exact (Below.heap_setCell _ ⟨w.heap.size, 5, none⟩ _ _ (show w.heap.size + 1 ≠ w.heap.size by omega)).trans ((Below.heap_setCell _ ⟨w.heap.size, 4, none⟩ _ _ (show w.heap.size + 1 ≠ w.heap.size by omega)).trans (blk_keep HB2.out HG4.out (by simp)))
        · exact (Below.heap_setCell _ ⟨w.heap.size, 5, none⟩ _ _ (show w.heap.size + 1 + 1 ≠ w.heap.size by omega)).trans ((Below.heap_setCell _ ⟨w.heap.size, 4, none⟩ _ _ (show w.heap.size + 1 + 1 ≠ w.heap.size by omega)).trans (blk_keep HZ2.out HG4.out (by simp)))
        · exact gb_drew (gb_setCell (gb_setCell (gb_trans HW2.out HG4.out (.inl rfl)) (.inr (Nat.le_refl _)) _) (.inr (Nat.le_refl _)) _)
  case rest =>
    obtain ⟨⟨hda, hdb, hdz⟩, hgd⟩ := hcut
    have HGD := hide hgd
    have HDA := hide hda
    have HDZ := hide hdz
    clear s0 s1 a0 a1 a2 a3 a4 a5 a6 a7 a8 a9 a10 a11 a12 a13 a14 c0 c1 c2 c3 c4 c5 c6 c7 c8 c9 c10 c11 c12 c13 c14 hgd
    have a0 : wc.cell? ⟨w.heap.size, 0, none⟩ = some (.int .i64 op) := by rw [blk_cell hda]; rfl
    have a1 : wc.cell? ⟨w.heap.size, 1, none⟩ = some (.int .i64 (-1)) := by rw [blk_cell hda]; rfl
    have a2 : wc.cell? ⟨w.heap.size, 2, none⟩ = some (.int .i64 0) := by rw [blk_cell hda]; rfl
    have a3 : wc.cell? ⟨w.heap.size, 3, none⟩ = some (.int .i64 0) := by rw [blk_cell hda]; rfl
    have a4 : wc.cell? ⟨w.heap.size, 4, none⟩ = some (.int .i64 (sm / 4294967296)) := by rw [blk_cell hda]; rfl
    have a5 : wc.cell? ⟨w.heap.size, 5, none⟩ = some (.int .i64 (sm % 4294967296)) := by rw [blk_cell hda]; rfl
    have a6 : wc.cell? ⟨w.heap.size, 6, none⟩ = some (.int .i64 ft) := by rw [blk_cell hda]; rfl
    have a7 : wc.cell? ⟨w.heap.size, 7, none⟩ = some (.slice fA fl fc) := by rw [blk_cell hda]; rfl
    have a8 : wc.cell? ⟨w.heap.size, 8, none⟩ = some (.slice gA gl gc) := by rw [blk_cell hda]; rfl
    have a9 : wc.cell? ⟨w.heap.size, 9, none⟩ = some (.slice hA hl hc) := by rw [blk_cell hda]; rfl
    have a10 : wc.cell? ⟨w.heap.size, 10, none⟩ = some (.int .i64 0) := by rw [blk_cell hda]; rfl
    have a11 : wc.cell? ⟨w.heap.size, 11, none⟩ = some (.slice none 0 0) := by rw [blk_cell hda]; rfl
    have a12 : wc.cell? ⟨w.heap.size, 12, none⟩ = some (.slice none 0 0) := by rw [blk_cell hda]; rfl
    have a13 : wc.cell? ⟨w.heap.size, 13, none⟩ = some (.slice none 0 0) := by rw [blk_cell hda]; rfl
    have a14 : wc.cell? ⟨w.heap.size, 14, none⟩ = some (.int .i64 0) := by rw [blk_cell hda]; rfl
    have c0 := blk_frozen hda 0
    have c1 := blk_frozen hda 1
    have c2 := blk_frozen hda 2
    have c3 := blk_frozen hda 3
    have c4 := blk_frozen hda 4
    have c5 := blk_frozen hda 5
    have c6 := blk_frozen hda 6
    have c7 := blk_frozen hda 7
    have c8 := blk_frozen hda 8
    have c9 := blk_frozen hda 9
    have c10 := blk_frozen hda 10
    have c11 := blk_frozen hda 11
    have c12 := blk_frozen hda 12
    have c13 := blk_frozen hda 13
    have c14 := blk_frozen hda 14
    have b0 : wc.cell? ⟨(w.heap.size + 1), 0, none⟩ = some (.int .i64 op) := by rw [blk_cell hdb]; rfl
    have b1 : wc.cell? ⟨(w.heap.size + 1), 1, none⟩ = some (.int .i64 2) := by rw [blk_cell hdb]; rfl
    have b2 : wc.cell? ⟨(w.heap.size + 1), 2, none⟩ = some (.int .i64 n) := by rw [blk_cell hdb]; rfl
    have b3 : wc.cell? ⟨(w.heap.size + 1), 3, none⟩ = some (.int .i64 s) := by rw [blk_cell hdb]; rfl
    have b4 : wc.cell? ⟨(w.heap.size + 1), 4, none⟩ = some (.int .i64 (sm / 4294967296)) := by rw [blk_cell hdb]; rfl
    have b5 : wc.cell? ⟨(w.heap.size + 1), 5, none⟩ = some (.int .i64 (sm % 4294967296)) := by rw [blk_cell hdb]; rfl
    have b6 : wc.cell? ⟨(w.heap.size + 1), 6, none⟩ = some (.int .i64 ft) := by rw [blk_cell hdb]; rfl
    have b7 : wc.cell? ⟨(w.heap.size + 1), 7, none⟩ = some (.slice fA fl fc) := by rw [blk_cell hdb]; rfl
    have b8 : wc.cell? ⟨(w.heap.size + 1), 8, none⟩ = some (.slice gA gl gc) := by rw [blk_cell hdb]; rfl
    have b9 : wc.cell? ⟨(w.heap.size + 1), 9, none⟩ = some (.slice hA hl hc) := by rw [blk_cell hdb]; rfl
    have b10 : wc.cell? ⟨(w.heap.size + 1), 10, none⟩ = some (.int .i64 0) := by rw [blk_cell hdb]; rfl
    have b11 : wc.cell? ⟨(w.heap.size + 1), 11, none⟩ = some (.slice none 0 0) := by rw [blk_cell hdb]; rfl
    have b12 : wc.cell? ⟨(w.heap.size + 1), 12, none⟩ = some (.slice none 0 0) := by rw [blk_cell hdb]; rfl
    have b13 : wc.cell? ⟨(w.heap.size + 1), 13, none⟩ = some (.slice none 0 0) := by rw [blk_cell hdb]; rfl
    have b14 : wc.cell? ⟨(w.heap.size + 1), 14, none⟩ = some (.int .i64 0) := by rw [blk_cell hdb]; rfl
    clear hda hdb hdz
    go_upto_region 23 with fail
    obtain ⟨w9, hw9⟩ : ∃ w9, w9 = (((wc.setCell ⟨w.heap.size, 1, none⟩ (.int .i64 2)).setCell ⟨w.heap.size, 2, none⟩ (.int .i64 n)).setCell ⟨w.heap.size, 3, none⟩ (.int .i64 s)) := ⟨_, rfl⟩
    rw [← hw9]
    have ha9 : w9.heap[w.heap.size]? = some (.cells #[.int .i64 op, .int .i64 2, .int .i64 n, .int .i64 s, .int .i64 (sm / 4294967296), .int .i64 (sm % 4294967296), .int .i64 ft, .slice fA fl fc, .slice gA gl gc, .slice hA hl hc, .int .i64 0, .slice none 0 0, .slice none 0 0, .slice none 0 0, .int .i64 0] 54 (0, 0)) := by rw [hw9]; exact blk_set (blk_set (blk_set HDA.out 1 _) 2 _) 3 _
    have hz9 : w9.heap[w.heap.size + 1 + 1]? = some (.cells #[.int .i64 0, .int .i64 0, .int .i64 0, .int .i64 0, .int .i64 0, .int .i64 0, .int .i64 0, .slice none 0 0, .slice none 0 0, .slice none 0 0, .int .i64 0, .slice none 0 0, .slice none 0 0, .slice none 0 0, .int .i64 0] 54 (0, 0)) := by rw [hw9]; exact (Below.heap_setCell _ ⟨w.heap.size, 3, none⟩ _ _ (show w.heap.size + 1 + 1 ≠ w.heap.size by omega)).trans ((Below.heap_setCell _ ⟨w.heap.size, 2, none⟩ _ _ (show w.heap.size + 1 + 1 ≠ w.heap.size by omega)).trans ((Below.heap_setCell _ ⟨w.heap.size, 1, none⟩ _ _ (show w.heap.size + 1 + 1 ≠ w.heap.size by omega)).trans HDZ.out))
    have HG9 := hide (show w.grownBy w9 none by rw [hw9]; exact gb_setCell (gb_setCell (gb_setCell HGD.out (.inr (Nat.le_refl _)) _) (.inr (Nat.le_refl _)) _) (.inr (Nat.le_refl _)) _)
    have HBZ9 := hide hz9
    clear hw9 a0 a1 a2 a3 a4 a5 a6 a7 a8 a9 a10 a11 a12 a13 a14 b0 b1 b2 b3 b4 b5 b6 b7 b8 b9 b10 b11 b12 b13 b14 c0 c1 c2 c3 c4 c5 c6 c7 c8 c9 c10 c11 c12 c13 c14
    have a0 : w9.cell? ⟨w.heap.size, 0, none⟩ = some (.int .i64 op) := by rw [blk_cell ha9]; rfl
    have a1 : w9.cell? ⟨w.heap.size, 1, none⟩ = some (.int .i64 2) := by rw [blk_cell ha9]; rfl
    have a2 : w9.cell? ⟨w.heap.size, 2, none⟩ = some (.int .i64 n) := by rw [blk_cell ha9]; rfl
    have a3 : w9.cell? ⟨w.heap.size, 3, none⟩ = some (.int .i64 s) := by rw [blk_cell ha9]; rfl
    have a4 : w9.cell? ⟨w.heap.size, 4, none⟩ = some (.int .i64 (sm / 4294967296)) := by rw [blk_cell ha9]; rfl
    have a5 : w9.cell? ⟨w.heap.size, 5, none⟩ = some (.int .i64 (sm % 4294967296)) := by rw [blk_cell ha9]; rfl
    have a6 : w9.cell? ⟨w.heap.size, 6, none⟩ = some (.int .i64 ft) := by rw [blk_cell ha9]; rfl
    have a7 : w9.cell? ⟨w.heap.size, 7, none⟩ = some (.slice fA fl fc) := by rw [blk_cell ha9]; rfl
    have a8 : w9.cell? ⟨w.heap.size, 8, none⟩ = some (.slice gA gl gc) := by rw [blk_cell ha9]; rfl
    have a9 : w9.cell? ⟨w.heap.size, 9, none⟩ = some (.slice hA hl hc) := by rw [blk_cell ha9]; rfl
    have a10 : w9.cell? ⟨w.heap.size, 10, none⟩ = some (.int .i64 0) := by rw [blk_cell ha9]; rfl
    have a11 : w9.cell? ⟨w.heap.size, 11, none⟩ = some (.slice none 0 0) := by rw [blk_cell ha9]; rfl
    have a12 : w9.cell? ⟨w.heap.size, 12, none⟩ = some (.slice none 0 0) := by rw [blk_cell ha9]; rfl
    have a13 : w9.cell? ⟨w.heap.size, 13, none⟩ = some (.slice none 0 0) := by rw [blk_cell ha9]; rfl
    have a14 : w9.cell? ⟨w.heap.size, 14, none⟩ = some (.int .i64 0) := by rw [blk_cell ha9]; rfl
    have y0 : w9.cell? ⟨(w.heap.size + 1 + 1), 0, none⟩ = some (.int .i64 0) := by rw [blk_cell hz9]; rfl
    have y1 : w9.cell? ⟨(w.heap.size + 1 + 1), 1, none⟩ = some (.int .i64 0) := by rw [blk_cell hz9]; rfl
    have y2 : w9.cell? ⟨(w.heap.size + 1 + 1), 2, none⟩ = some (.int .i64 0) := by rw [blk_cell hz9]; rfl
    have y3 : w9.cell? ⟨(w.heap.size + 1 + 1), 3, none⟩ = some (.int .i64 0) := by rw [blk_cell hz9]; rfl
    have y4 : w9.cell? ⟨(w.heap.size + 1 + 1), 4, none⟩ = some (.int .i64 0) := by rw [blk_cell hz9]; rfl
    have y5 : w9.cell? ⟨(w.heap.size + 1 + 1), 5, none⟩ = some (.int .i64 0) := by rw [blk_cell hz9]; rfl
    have y6 : w9.cell? ⟨(w.heap.size + 1 + 1), 6, none⟩ = some (.int .i64 0) := by rw [blk_cell hz9]; rfl
    have y7 : w9.cell? ⟨(w.heap.size + 1 + 1), 7, none⟩ = some (.slice none 0 0) := by rw [blk_cell hz9]; rfl
    have y8 : w9.cell? ⟨(w.heap.size + 1 + 1), 8, none⟩ = some (.slice none 0 0) := by rw [blk_cell hz9]; rfl
    have y9 : w9.cell? ⟨(w.heap.size + 1 + 1), 9, none⟩ = some (.slice none 0 0) := by rw [blk_cell hz9]; rfl
    have y10 : w9.cell? ⟨(w.heap.size + 1 + 1), 10, none⟩ = some (.int .i64 0) := by rw [blk_cell hz9]; rfl
    have y11 : w9.cell? ⟨(w.heap.size + 1 + 1), 11, none⟩ = some (.slice none 0 0) := by rw [blk_cell hz9]; rfl
    have y12 : w9.cell? ⟨(w.heap.size + 1 + 1), 12, none⟩ = some (.slice none 0 0) := by rw [blk_cell hz9]; rfl
    have y13 : w9.cell? ⟨(w.heap.size + 1 + 1), 13, none⟩ = some (.slice none 0 0) := by rw [blk_cell hz9]; rfl
    have y14 : w9.cell? ⟨(w.heap.size + 1 + 1), 14, none⟩ = some (.int .i64 0) := by rw [blk_cell hz9]; rfl
    have x0 := blk_frozen hz9 0
    have x1 := blk_frozen hz9 1
    have x2 := blk_frozen hz9 2
    have x3 := blk_frozen hz9 3
    have x4 := blk_frozen hz9 4
    have x5 := blk_frozen hz9 5
    have x6 := blk_frozen hz9 6
    have x7 := blk_frozen hz9 7
    have x8 := blk_frozen hz9 8
    have x9 := blk_frozen hz9 9
    have x10 := blk_frozen hz9 10
    have x11 := blk_frozen hz9 11
    have x12 := blk_frozen hz9 12
    have x13 := blk_frozen hz9 13
    have x14 := blk_frozen hz9 14
    clear ha9 hz9
    go_wp2_with fail
    obtain ⟨wF, hwF⟩ : ∃ wF, wF = (((((((((((((((w9.setCell ⟨w.heap.size + 1 + 1, 0, none⟩ (.int .i64 op)).setCell ⟨w.heap.size + 1 + 1, 1, none⟩ (.int .i64 2)).setCell ⟨w.heap.size + 1 + 1, 2, none⟩ (.int .i64 n)).setCell ⟨w.heap.size + 1 + 1, 3, none⟩ (.int .i64 s)).setCell ⟨w.heap.size + 1 + 1, 4, none⟩ (.int .i64 (sm / 4294967296))).setCell ⟨w.heap.size + 1 + 1, 5, none⟩ (.int .i64 (sm % 4294967296))).setCell ⟨w.heap.size + 1 + 1, 6, none⟩ (.int .i64 ft)).setCell ⟨w.heap.size + 1 + 1, 7, none⟩ (.slice fA fl fc)).setCell ⟨w.heap.size + 1 + 1, 8, none⟩ (.slice gA gl gc)).setCell ⟨w.heap.size + 1 + 1, 9, none⟩ (.slice hA hl hc)).setCell ⟨w.heap.size + 1 + 1, 10, none⟩ (.int .i64 0)).setCell ⟨w.heap.size + 1 + 1, 11, none⟩ (.slice none 0 0)).setCell ⟨w.heap.size + 1 + 1, 12, none⟩ (.slice none 0 0)).setCell ⟨w.heap.size + 1 + 1, 13, none⟩ (.slice none 0 0)).setCell ⟨w.heap.size + 1 + 1, 14, none⟩ (.int .i64 0)) := ⟨_, rfl⟩
    rw [← hwF]
    have hfin : wF.heap[(w.heap.size + 1 + 1)]? = some (.cells #[.int .i64 op, .int .i64 2, .int .i64 n, .int .i64 s, .int .i64 (sm / 4294967296), .int .i64 (sm % 4294967296), .int .i64 ft, .slice fA fl fc, .slice gA gl gc, .slice hA hl hc, .int .i64 0, .slice none 0 0, .slice none 0 0, .slice none 0 0, .int .i64 0] 54 (0, 0)) := by
      rw [hwF]
      have h := (blk_set (blk_set (blk_set (blk_set (blk_set (blk_set (blk_set (blk_set (blk_set (blk_set (blk_set (blk_set (blk_set (blk_set (blk_set HBZ9.out 0 (.int .i64 op)) 1 (.int .i64 2)) 2 (.int .i64 n)) 3 (.int .i64 s)) 4 (.int .i64 (sm / 4294967296))) 5 (.int .i64 (sm % 4294967296))) 6 (.int .i64 ft)) 7 (.slice fA fl fc)) 8 (.slice gA gl gc)) 9 (.slice hA hl hc)) 10 (.int .i64 0)) 11 (.slice none 0 0)) 12 (.slice none 0 0)) 13 (.slice none 0 0)) 14 (.int .i64 0))
      simp only [List.setIfInBounds_toArray, List.set_cons_succ, List.set_cons_zero] at h
      exact h
    have hgf : w9.grownBy wF (some (w.heap.size + 1 + 1)) := by rw [hwF]; exact gb_setCell (gb_setCell (gb_setCell (gb_setCell (gb_setCell (gb_setCell (gb_setCell (gb_setCell (gb_setCell (gb_setCell (gb_setCell (gb_setCell (gb_setCell (gb_setCell (gb_setCell (gb_refl w9 (some (w.heap.size + 1 + 1))) (.inl rfl) _) (.inl rfl) _) (.inl rfl) _) (.inl rfl) _) (.inl rfl) _) (.inl rfl) _) (.inl rfl) _) (.inl rfl) _) (.inl rfl) _) (.inl rfl) _) (.inl rfl) _) (.inl rfl) _) (.inl rfl) _) (.inl rfl) _) (.inl rfl) _
    clear hwF
    have m0 : wF.cell? ⟨w.heap.size + 1 + 1, 0, none⟩ = some (.int .i64 op) := by rw [blk_cell hfin]; rfl
    have m1 : wF.cell? ⟨w.heap.size + 1 + 1, 1, none⟩ = some (.int .i64 2) := by rw [blk_cell hfin]; rfl
    have m2 : wF.cell? ⟨w.heap.size + 1 + 1, 2, none⟩ = some (.int .i64 n) := by rw [blk_cell hfin]; rfl
    have m3 : wF.cell? ⟨w.heap.size + 1 + 1, 3, none⟩ = some (.int .i64 s) := by rw [blk_cell hfin]; rfl
    have m4 : wF.cell? ⟨w.heap.size + 1 + 1, 4, none⟩ = some (.int .i64 (sm / 4294967296)) := by rw [blk_cell hfin]; rfl
    have m5 : wF.cell? ⟨w.heap.size + 1 + 1, 5, none⟩ = some (.int .i64 (sm % 4294967296)) := by rw [blk_cell hfin]; rfl
    have m6 : wF.cell? ⟨w.heap.size + 1 + 1, 6, none⟩ = some (.int .i64 ft) := by rw [blk_cell hfin]; rfl
    have m7 : wF.cell? ⟨w.heap.size + 1 + 1, 7, none⟩ = some (.slice fA fl fc) := by rw [blk_cell hfin]; rfl
    have m8 : wF.cell? ⟨w.heap.size + 1 + 1, 8, none⟩ = some (.slice gA gl gc) := by rw [blk_cell hfin]; rfl
    have m9 : wF.cell? ⟨w.heap.size + 1 + 1, 9, none⟩ = some (.slice hA hl hc) := by rw [blk_cell hfin]; rfl
    have m10 : wF.cell? ⟨w.heap.size + 1 + 1, 10, none⟩ = some (.int .i64 0) := by rw [blk_cell hfin]; rfl
    have m11 : wF.cell? ⟨w.heap.size + 1 + 1, 11, none⟩ = some (.slice none 0 0) := by rw [blk_cell hfin]; rfl
    have m12 : wF.cell? ⟨w.heap.size + 1 + 1, 12, none⟩ = some (.slice none 0 0) := by rw [blk_cell hfin]; rfl
    have m13 : wF.cell? ⟨w.heap.size + 1 + 1, 13, none⟩ = some (.slice none 0 0) := by rw [blk_cell hfin]; rfl
    have m14 : wF.cell? ⟨w.heap.size + 1 + 1, 14, none⟩ = some (.int .i64 0) := by rw [blk_cell hfin]; rfl
    refine bodyPost_ret (v := .agg #[.int .i64 op, .int .i64 2, .int .i64 n, .int .i64 s, .int .i64 (sm / 4294967296), .int .i64 (sm % 4294967296), .int .i64 ft, .slice fA fl fc, .slice gA gl gc, .slice hA hl hc, .int .i64 0, .slice none 0 0, .slice none 0 0, .slice none 0 0, .int .i64 0]) (by simp [results, Tryz.results61, go_sem, m0, m1, m2, m3, m4, m5, m6, m7, m8, m9, m10, m11, m12, m13, m14]) rfl ?_
    exact ⟨rfl, gb_trans HG9.out hgf (.inr (.inr ⟨_, rfl, by omega⟩))⟩
set_option maxHeartbeats 4000000 in
set_option maxRecDepth 100000 in
theorem follow_plain (op n s sm : Int) (e1 : (op == 1) = false) (e2 : (op == 2) = false) (hn : 0 ≤ n ∧ n ≤ 1100000) (hsn : 0 ≤ s ∧ s ≤ 1100000) (hsm : Sum64 sm) (ft : Int) (fA : Option Addr) (fl fc : Nat) (gA : Option Addr) (gl gc : Nat) (hA : Option Addr) (hl hc : Nat) (hsu : ∀ (w : World), Calls Tryz.prog 92 #[.agg #[.int .i64 op, .int .i64 2, .int .i64 n, .int .i64 s, .int .i64 (sm / 4294967296), .int .i64 (sm % 4294967296), .int .i64 ft, .slice fA fl fc, .slice gA gl gc, .slice hA hl hc, .int .i64 0, .slice none 0 0, .slice none 0 0, .slice none 0 0, .int .i64 0], .agg #[.int .i64 op, .int .i64 (-1), .int .i64 0, .int .i64 0, .int .i64 0, .int .i64 0, .int .i64 0, .slice none 0 0, .slice none 0 0, .slice none 0 0, .int .i64 0, .slice none 0 0, .slice none 0 0, .slice none 0 0, .int .i64 0]] w fun e w' => e = .returned (.bool false) ∧ w.grownBy w' none) (w : World) : Calls Tryz.prog 61 #[.agg #[.int .i64 op, .int .i64 (-1), .int .i64 0, .int .i64 0, .int .i64 0, .int .i64 0, .int .i64 0, .slice none 0 0, .slice none 0 0, .slice none 0 0, .int .i64 0, .slice none 0 0, .slice none 0 0, .slice none 0 0, .int .i64 0], .agg #[.int .i64 op, .int .i64 2, .int .i64 n, .int .i64 s, .int .i64 (sm / 4294967296), .int .i64 (sm % 4294967296), .int .i64 ft, .slice fA fl fc, .slice gA gl gc, .slice hA hl hc, .int .i64 0, .slice none 0 0, .slice none 0 0, .slice none 0 0, .int .i64 0]] w fun e w' => e = .returned (.agg #[.int .i64 op, .int .i64 2, .int .i64 n, .int .i64 s, .int .i64 (sm / 4294967296), .int .i64 (sm % 4294967296), .int .i64 0, .slice none 0 0, .slice none 0 0, .slice none 0 0, .int .i64 0, .slice none 0 0, .slice none 0 0, .slice none 0 0, .int .i64 0]) ∧ w.grownBy w' none := by
  obtain ⟨wa, hwa⟩ : ∃ wa, wa = ((w.alloc (.cells #[.int .i64 op, .int .i64 (-1), .int .i64 0, .int .i64 0, .int .i64 0, .int .i64 0, .int .i64 0, .slice none 0 0, .slice none 0 0, .slice none 0 0, .int .i64 0, .slice none 0 0, .slice none 0 0, .slice none 0 0, .int .i64 0] 54)).alloc (.cells #[.int .i64 op, .int .i64 2, .int .i64 n, .int .i64 s, .int .i64 (sm / 4294967296), .int .i64 (sm % 4294967296), .int .i64 ft, .slice fA fl fc, .slice gA gl gc, .slice hA hl hc, .int .i64 0, .slice none 0 0, .slice none 0 0, .slice none 0 0, .int .i64 0] 54)).alloc (.cells #[.int .i64 0, .int .i64 0, .int .i64 0, .int .i64 0, .int .i64 0, .int .i64 0, .int .i64 0, .slice none 0 0, .slice none 0 0, .slice none 0 0, .int .i64 0, .slice none 0 0, .slice none 0 0, .slice none 0 0, .int .i64 0] 54) := ⟨_, rfl⟩
  have ha : wa.heap[w.heap.size]? = some (.cells #[.int .i64 op, .int .i64 (-1), .int .i64 0, .int .i64 0, .int .i64 0, .int .i64 0, .int .i64 0, .slice none 0 0, .slice none 0 0, .slice none 0 0, .int .i64 0, .slice none 0 0, .slice none 0 0, .slice none 0 0, .int .i64 0] 54 (0, 0)) := by rw [hwa]; exact (Below.heap_alloc _ _ _ (by rw [World.size_alloc, World.size_alloc]; omega)).trans ((Below.heap_alloc _ _ _ (by rw [World.size_alloc]; omega)).trans (heap_alloc_new w _))
  have hb : wa.heap[w.heap.size + 1]? = some (.cells #[.int .i64 op, .int .i64 2, .int .i64 n, .int .i64 s, .int .i64 (sm / 4294967296), .int .i64 (sm % 4294967296), .int .i64 ft, .slice fA fl fc, .slice gA gl gc, .slice hA hl hc, .int .i64 0, .slice none 0 0, .slice none 0 0, .slice none 0 0, .int .i64 0] 54 (0, 0)) := by rw [hwa]; refine (Below.heap_alloc _ _ _ (by rw [World.size_alloc, World.size_alloc]; omega)).trans ?_; have := heap_alloc_new (w.alloc (.cells #[.int .i64 op, .int .i64 (-1), .int .i64 0, .int .i64 0, .int .i64 0, .int .i64 0, .int .i64 0, .slice none 0 0, .slice none 0 0, .slice none 0 0, .int .i64 0, .slice none 0 0, .slice none 0 0, .slice none 0 0, .int .i64 0] 54)) (.cells #[.int .i64 op, .int .i64 2, .int .i64 n, .int .i64 s, .int .i64 (sm / 4294967296), .int .i64 (sm % 4294967296), .int .i64 ft, .slice fA fl fc, .slice gA gl gc, .slice hA hl hc, .int .i64 0, .slice none 0 0, .slice none 0 0, .slice none 0 0, .int .i64 0] 54); rwa [World.size_alloc] at this
  have hz : wa.heap[w.heap.size + 1 + 1]? = some (.cells #[.int .i64 0, .int .i64 0, .int .i64 0, .int .i64 0, .int .i64 0, .int .i64 0, .int .i64 0, .slice none 0 0, .slice none 0 0, .slice none 0 0, .int .i64 0, .slice none 0 0, .slice none 0 0, .slice none 0 0, .int .i64 0] 54 (0, 0)) := by rw [hwa]; have := heap_alloc_new ((w.alloc (.cells #[.int .i64 op, .int .i64 (-1), .int .i64 0, .int .i64 0, .int .i64 0, .int .i64 0, .int .i64 0, .slice none 0 0, .slice none 0 0, .slice none 0 0, .int .i64 0, .slice none 0 0, .slice none 0 0, .slice none 0 0, .int .i64 0] 54)).alloc (.cells #[.int .i64 op, .int .i64 2, .int .i64 n, .int .i64 s, .int .i64 (sm / 4294967296), .int .i64 (sm % 4294967296), .int .i64 ft, .slice fA fl fc, .slice gA gl gc, .slice hA hl hc, .int .i64 0, .slice none 0 0, .slice none 0 0, .slice none 0 0, .int .i64 0] 54)) (.cells #[.int .i64 0, .int .i64 0, .int .i64 0, .int .i64 0, .int .i64 0, .int .i64 0, .int .i64 0, .slice none 0 0, .slice none 0 0, .slice none 0 0, .int .i64 0, .slice none 0 0, .slice none 0 0, .slice none 0 0, .int .i64 0] 54); rwa [World.size_alloc, World.size_alloc] at this
  have HBA := hide ha
  have HB := hide hb
  have HZ := hide hz
  have HG := hide (show w.grownBy wa none by rw [hwa]; exact gb_alloc (gb_alloc (gb_alloc (gb_refl w none) _) _) _)
  have HWE := hide hwa
  have HSU := hide hsu
  have HPL := hide (fun w2 => (show Calls Tryz.prog 42 #[.agg #[.int .i64 0, .int .i64 0], .agg #[.int .i64 (sm / 4294967296), .int .i64 (sm % 4294967296)]] w2 fun e w' => e = .returned (.agg #[.int .i64 (sm / 4294967296), .int .i64 (sm % 4294967296)]) ∧ w2.grownBy w' none by
    have := plus_any 0 sm (by rw [Int.zero_add]; exact hsm) w2
    rwa [Int.zero_add] at this))
  have hn1 : IntKind.i64.wrap n = n := by rw [IntKind.wrap_i64]; omega
  have hs1 : IntKind.i64.wrap s = s := by rw [IntKind.wrap_i64]; omega
  have a0 : wa.cell? ⟨w.heap.size, 0, none⟩ = some (.int .i64 op) := by rw [blk_cell ha]; rfl
  have a1 : wa.cell? ⟨w.heap.size, 1, none⟩ = some (.int .i64 (-1)) := by rw [blk_cell ha]; rfl
  have a2 : wa.cell? ⟨w.heap.size, 2, none⟩ = some (.int .i64 0) := by rw [blk_cell ha]; rfl
  have a3 : wa.cell? ⟨w.heap.size, 3, none⟩ = some (.int .i64 0) := by rw [blk_cell ha]; rfl
  have a4 : wa.cell? ⟨w.heap.size, 4, none⟩ = some (.int .i64 0) := by rw [blk_cell ha]; rfl
  have a5 : wa.cell? ⟨w.heap.size, 5, none⟩ = some (.int .i64 0) := by rw [blk_cell ha]; rfl
  have a6 : wa.cell? ⟨w.heap.size, 6, none⟩ = some (.int .i64 0) := by rw [blk_cell ha]; rfl
  have a7 : wa.cell? ⟨w.heap.size, 7, none⟩ = some (.slice none 0 0) := by rw [blk_cell ha]; rfl
  have a8 : wa.cell? ⟨w.heap.size, 8, none⟩ = some (.slice none 0 0) := by rw [blk_cell ha]; rfl
  have a9 : wa.cell? ⟨w.heap.size, 9, none⟩ = some (.slice none 0 0) := by rw [blk_cell ha]; rfl
  have a10 : wa.cell? ⟨w.heap.size, 10, none⟩ = some (.int .i64 0) := by rw [blk_cell ha]; rfl
  have a11 : wa.cell? ⟨w.heap.size, 11, none⟩ = some (.slice none 0 0) := by rw [blk_cell ha]; rfl
  have a12 : wa.cell? ⟨w.heap.size, 12, none⟩ = some (.slice none 0 0) := by rw [blk_cell ha]; rfl
  have a13 : wa.cell? ⟨w.heap.size, 13, none⟩ = some (.slice none 0 0) := by rw [blk_cell ha]; rfl
  have a14 : wa.cell? ⟨w.heap.size, 14, none⟩ = some (.int .i64 0) := by rw [blk_cell ha]; rfl
  have b0 : wa.cell? ⟨(w.heap.size + 1), 0, none⟩ = some (.int .i64 op) := by rw [blk_cell hb]; rfl
  have b1 : wa.cell? ⟨(w.heap.size + 1), 1, none⟩ = some (.int .i64 2) := by rw [blk_cell hb]; rfl
  have b2 : wa.cell? ⟨(w.heap.size + 1), 2, none⟩ = some (.int .i64 n) := by rw [blk_cell hb]; rfl
  have b3 : wa.cell? ⟨(w.heap.size + 1), 3, none⟩ = some (.int .i64 s) := by rw [blk_cell hb]; rfl
  have b4 : wa.cell? ⟨(w.heap.size + 1), 4, none⟩ = some (.int .i64 (sm / 4294967296)) := by rw [blk_cell hb]; rfl
  have b5 : wa.cell? ⟨(w.heap.size + 1), 5, none⟩ = some (.int .i64 (sm % 4294967296)) := by rw [blk_cell hb]; rfl
  have b6 : wa.cell? ⟨(w.heap.size + 1), 6, none⟩ = some (.int .i64 ft) := by rw [blk_cell hb]; rfl
  have b7 : wa.cell? ⟨(w.heap.size + 1), 7, none⟩ = some (.slice fA fl fc) := by rw [blk_cell hb]; rfl
  have b8 : wa.cell? ⟨(w.heap.size + 1), 8, none⟩ = some (.slice gA gl gc) := by rw [blk_cell hb]; rfl
  have b9 : wa.cell? ⟨(w.heap.size + 1), 9, none⟩ = some (.slice hA hl hc) := by rw [blk_cell hb]; rfl
  have b10 : wa.cell? ⟨(w.heap.size + 1), 10, none⟩ = some (.int .i64 0) := by rw [blk_cell hb]; rfl
  have b11 : wa.cell? ⟨(w.heap.size + 1), 11, none⟩ = some (.slice none 0 0) := by rw [blk_cell hb]; rfl
  have b12 : wa.cell? ⟨(w.heap.size + 1), 12, none⟩ = some (.slice none 0 0) := by rw [blk_cell hb]; rfl
  have b13 : wa.cell? ⟨(w.heap.size + 1), 13, none⟩ = some (.slice none 0 0) := by rw [blk_cell hb]; rfl
  have b14 : wa.cell? ⟨(w.heap.size + 1), 14, none⟩ = some (.int .i64 0) := by rw [blk_cell hb]; rfl
  clear hwa ha hb hz hn hsn hsm hsu
  go_enter Tryz.func61, Tryz.ntmps61
  go_upto_region 1 with fail
  rw [← HWE.out]
  go_upto_region 16 with (go_at_call 92; refine (HSU.out _).mono ?_; rintro e w1 ⟨rfl, hg1⟩; have HG1 := hide hg1; clear hg1 a0 a1 a2 a3 a4 a5 a6 a7 a8 a9 a10 a11 a12 a13 a14 b0 b1 b2 b3 b4 b5 b6 b7 b8 b9 b10 b11 b12 b13 b14; have ha1 := blk_keep HBA.out HG1.out (by simp); have hb1 := blk_keep HB.out HG1.out (by simp); have HBA1 := hide ha1; have a0 : w1.cell? ⟨w.heap.size, 0, none⟩ = some (.int .i64 op) := (by { rw [blk_cell ha1]; rfl }); have a1 : w1.cell? ⟨w.heap.size, 1, none⟩ = some (.int .i64 (-1)) := (by { rw [blk_cell ha1]; rfl }); have a2 : w1.cell? ⟨w.heap.size, 2, none⟩ = some (.int .i64 0) := (by { rw [blk_cell ha1]; rfl }); have a3 : w1.cell? ⟨w.heap.size, 3, none⟩ = some (.int .i64 0) := (by { rw [blk_cell ha1]; rfl }); have a4 : w1.cell? ⟨w.heap.size, 4, none⟩ = some (.int .i64 0) := (by { rw [blk_cell ha1]; rfl }); have a5 : w1.cell? ⟨w.heap.size, 5, none⟩ = some (.int .i64 0) := (by { rw [blk_cell ha1]; rfl }); have a6 : w1.cell? ⟨w.heap.size, 6, none⟩ = some (.int .i64 0) := (by { rw [blk_cell ha1]; rfl }); have a7 : w1.cell? ⟨w.heap.size, 7, none⟩ = some (.slice none 0 0) := (by { rw [blk_cell ha1]; rfl }); have a8 : w1.cell? ⟨w.heap.size, 8, none⟩ = some (.slice none 0 0) := (by { rw [blk_cell ha1]; rfl }); have a9 : w1.cell? ⟨w.heap.size, 9, none⟩ = some (.slice none 0 0) := (by { rw [blk_cell ha1]; rfl }); have a10 : w1.cell? ⟨w.heap.size, 10, none⟩ = some (.int .i64 0) := (by { rw [blk_cell ha1]; rfl }); have a11 : w1.cell? ⟨w.heap.size, 11, none⟩ = some (.slice none 0 0) := (by { rw [blk_cell ha1]; rfl }); have a12 : w1.cell? ⟨w.heap.size, 12, none⟩ = some (.slice none 0 0) := (by { rw [blk_cell ha1]; rfl }); have a13 : w1.cell? ⟨w.heap.size, 13, none⟩ = some (.slice none 0 0) := (by { rw [blk_cell ha1]; rfl }); have a14 : w1.cell? ⟨w.heap.size, 14, none⟩ = some (.int .i64 0) := (by { rw [blk_cell ha1]; rfl }); have c0 := blk_frozen ha1 0; have c1 := blk_frozen ha1 1; have c2 := blk_frozen ha1 2; have c3 := blk_frozen ha1 3; have c4 := blk_frozen ha1 4; have c5 := blk_frozen ha1 5; have c6 := blk_frozen ha1 6; have c7 := blk_frozen ha1 7; have c8 := blk_frozen ha1 8; have c9 := blk_frozen ha1 9; have c10 := blk_frozen ha1 10; have c11 := blk_frozen ha1 11; have c12 := blk_frozen ha1 12; have c13 := blk_frozen ha1 13; have c14 := blk_frozen ha1 14; have b0 : w1.cell? ⟨(w.heap.size + 1), 0, none⟩ = some (.int .i64 op) := (by { rw [blk_cell hb1]; rfl }); have b1 : w1.cell? ⟨(w.heap.size + 1), 1, none⟩ = some (.int .i64 2) := (by { rw [blk_cell hb1]; rfl }); have b2 : w1.cell? ⟨(w.heap.size + 1), 2, none⟩ = some (.int .i64 n) := (by { rw [blk_cell hb1]; rfl }); have b3 : w1.cell? ⟨(w.heap.size + 1), 3, none⟩ = some (.int .i64 s) := (by { rw [blk_cell hb1]; rfl }); have b4 : w1.cell? ⟨(w.heap.size + 1), 4, none⟩ = some (.int .i64 (sm / 4294967296)) := (by { rw [blk_cell hb1]; rfl }); have b5 : w1.cell? ⟨(w.heap.size + 1), 5, none⟩ = some (.int .i64 (sm % 4294967296)) := (by { rw [blk_cell hb1]; rfl }); have b6 : w1.cell? ⟨(w.heap.size + 1), 6, none⟩ = some (.int .i64 ft) := (by { rw [blk_cell hb1]; rfl }); have b7 : w1.cell? ⟨(w.heap.size + 1), 7, none⟩ = some (.slice fA fl fc) := (by { rw [blk_cell hb1]; rfl }); have b8 : w1.cell? ⟨(w.heap.size + 1), 8, none⟩ = some (.slice gA gl gc) := (by { rw [blk_cell hb1]; rfl }); have b9 : w1.cell? ⟨(w.heap.size + 1), 9, none⟩ = some (.slice hA hl hc) := (by { rw [blk_cell hb1]; rfl }); have b10 : w1.cell? ⟨(w.heap.size + 1), 10, none⟩ = some (.int .i64 0) := (by { rw [blk_cell hb1]; rfl }); have b11 : w1.cell? ⟨(w.heap.size + 1), 11, none⟩ = some (.slice none 0 0) := (by { rw [blk_cell hb1]; rfl }); have b12 : w1.cell? ⟨(w.heap.size + 1), 12, none⟩ = some (.slice none 0 0) := (by { rw [blk_cell hb1]; rfl }); have b13 : w1.cell? ⟨(w.heap.size + 1), 13, none⟩ = some (.slice none 0 0) := (by { rw [blk_cell hb1]; rfl }); have b14 : w1.cell? ⟨(w.heap.size + 1), 14, none⟩ = some (.int .i64 0) := (by { rw [blk_cell hb1]; rfl }); clear ha1 hb1)
  obtain ⟨w2, rfl⟩ : ∃ w2, w2 = w1 := ⟨_, rfl⟩
  have ha2 := HBA1.out
  have HBA2 := hide ha2
  clear a0 a1 a2 a3 a4 a5 a6 a7 a8 a9 a10 a11 a12 a13 a14 c0 c1 c2 c3 c4 c5 c6 c7 c8 c9 c10 c11 c12 c13 c14 b0 b1 b2 b3 b4 b5 b6 b7 b8 b9 b10 b11 b12 b13 b14
  have hb2 := blk_keep HB.out HG1.out (by simp)
  have hz2 := blk_keep HZ.out HG1.out (by simp)
  have HB2 := hide hb2
  have HZ2 := hide hz2
  have a0 : w2.cell? ⟨w.heap.size, 0, none⟩ = some (.int .i64 op) := by rw [blk_cell ha2]; rfl
  have a1 : w2.cell? ⟨w.heap.size, 1, none⟩ = some (.int .i64 (-1)) := by rw [blk_cell ha2]; rfl
  have a2 : w2.cell? ⟨w.heap.size, 2, none⟩ = some (.int .i64 0) := by rw [blk_cell ha2]; rfl
  have a3 : w2.cell? ⟨w.heap.size, 3, none⟩ = some (.int .i64 0) := by rw [blk_cell ha2]; rfl
  have a4 : w2.cell? ⟨w.heap.size, 4, none⟩ = some (.int .i64 0) := by rw [blk_cell ha2]; rfl
  have a5 : w2.cell? ⟨w.heap.size, 5, none⟩ = some (.int .i64 0) := by rw [blk_cell ha2]; rfl
  have a6 : w2.cell? ⟨w.heap.size, 6, none⟩ = some (.int .i64 0) := by rw [blk_cell ha2]; rfl
  have a7 : w2.cell? ⟨w.heap.size, 7, none⟩ = some (.slice none 0 0) := by rw [blk_cell ha2]; rfl
  have a8 : w2.cell? ⟨w.heap.size, 8, none⟩ = some (.slice none 0 0) := by rw [blk_cell ha2]; rfl
  have a9 : w2.cell? ⟨w.heap.size, 9, none⟩ = some (.slice none 0 0) := by rw [blk_cell ha2]; rfl
  have a10 : w2.cell? ⟨w.heap.size, 10, none⟩ = some (.int .i64 0) := by rw [blk_cell ha2]; rfl
  have a11 : w2.cell? ⟨w.heap.size, 11, none⟩ = some (.slice none 0 0) := by rw [blk_cell ha2]; rfl
  have a12 : w2.cell? ⟨w.heap.size, 12, none⟩ = some (.slice none 0 0) := by rw [blk_cell ha2]; rfl
  have a13 : w2.cell? ⟨w.heap.size, 13, none⟩ = some (.slice none 0 0) := by rw [blk_cell ha2]; rfl
  have a14 : w2.cell? ⟨w.heap.size, 14, none⟩ = some (.int .i64 0) := by rw [blk_cell ha2]; rfl
  have c0 := blk_frozen ha2 0
  have c1 := blk_frozen ha2 1
  have c2 := blk_frozen ha2 2
  have c3 := blk_frozen ha2 3
  have c4 := blk_frozen ha2 4
  have c5 := blk_frozen ha2 5
  have c6 := blk_frozen ha2 6
  have c7 := blk_frozen ha2 7
  have c8 := blk_frozen ha2 8
  have c9 := blk_frozen ha2 9
  have c10 := blk_frozen ha2 10
  have c11 := blk_frozen ha2 11
  have c12 := blk_frozen ha2 12
  have c13 := blk_frozen ha2 13
  have c14 := blk_frozen ha2 14
  have b0 : w2.cell? ⟨(w.heap.size + 1), 0, none⟩ = some (.int .i64 op) := by rw [blk_cell hb2]; rfl
  have b1 : w2.cell? ⟨(w.heap.size + 1), 1, none⟩ = some (.int .i64 2) := by rw [blk_cell hb2]; rfl
  have b2 : w2.cell? ⟨(w.heap.size + 1), 2, none⟩ = some (.int .i64 n) := by rw [blk_cell hb2]; rfl
  have b3 : w2.cell? ⟨(w.heap.size + 1), 3, none⟩ = some (.int .i64 s) := by rw [blk_cell hb2]; rfl
  have b4 : w2.cell? ⟨(w.heap.size + 1), 4, none⟩ = some (.int .i64 (sm / 4294967296)) := by rw [blk_cell hb2]; rfl
  have b5 : w2.cell? ⟨(w.heap.size + 1), 5, none⟩ = some (.int .i64 (sm % 4294967296)) := by rw [blk_cell hb2]; rfl
  have b6 : w2.cell? ⟨(w.heap.size + 1), 6, none⟩ = some (.int .i64 ft) := by rw [blk_cell hb2]; rfl
  have b7 : w2.cell? ⟨(w.heap.size + 1), 7, none⟩ = some (.slice fA fl fc) := by rw [blk_cell hb2]; rfl
  have b8 : w2.cell? ⟨(w.heap.size + 1), 8, none⟩ = some (.slice gA gl gc) := by rw [blk_cell hb2]; rfl
  have b9 : w2.cell? ⟨(w.heap.size + 1), 9, none⟩ = some (.slice hA hl hc) := by rw [blk_cell hb2]; rfl
  have b10 : w2.cell? ⟨(w.heap.size + 1), 10, none⟩ = some (.int .i64 0) := by rw [blk_cell hb2]; rfl
  have b11 : w2.cell? ⟨(w.heap.size + 1), 11, none⟩ = some (.slice none 0 0) := by rw [blk_cell hb2]; rfl
  have b12 : w2.cell? ⟨(w.heap.size + 1), 12, none⟩ = some (.slice none 0 0) := by rw [blk_cell hb2]; rfl
  have b13 : w2.cell? ⟨(w.heap.size + 1), 13, none⟩ = some (.slice none 0 0) := by rw [blk_cell hb2]; rfl
  have b14 : w2.cell? ⟨(w.heap.size + 1), 14, none⟩ = some (.int .i64 0) := by rw [blk_cell hb2]; rfl
  clear hb2 ha2 hz2
  have HW2 := hide (gb_trans HG.out HG1.out (.inl rfl))
  go_upto_region 19 with (go_at_call 42; refine (HPL.out _).mono ?_; rintro e w3 ⟨rfl, hg3⟩; have HG3 := hide hg3; clear hg3 a0 a1 a2 a3 a4 a5 a6 a7 a8 a9 a10 a11 a12 a13 a14 b0 b1 b2 b3 b4 b5 b6 b7 b8 b9 b10 b11 b12 b13 b14 c0 c1 c2 c3 c4 c5 c6 c7 c8 c9 c10 c11 c12 c13 c14)
  obtain ⟨w4, hw4⟩ : ∃ w4, w4 = w3.alloc (.cells #[.int .i64 (sm / 4294967296), .int .i64 (sm % 4294967296)] 65) := ⟨_, rfl⟩
  rw [← hw4]
  have ht4 : w4.heap[w3.heap.size]? = some (.cells #[.int .i64 (sm / 4294967296), .int .i64 (sm % 4294967296)] 65 (0, 0)) := by rw [hw4]; exact heap_alloc_new w3 _
  have HG4 := hide (show w2.grownBy w4 none by rw [hw4]; exact gb_trans HG3.out (gb_alloc (gb_refl w3 none) _) (.inl rfl))
  clear hw4
  have s0 : w4.cell? ⟨w3.heap.size, 0, none⟩ = some (.int .i64 (sm / 4294967296)) := by rw [blk_cell ht4]; rfl
  have s1 : w4.cell? ⟨w3.heap.size, 1, none⟩ = some (.int .i64 (sm % 4294967296)) := by rw [blk_cell ht4]; rfl
  have ha4 := blk_keep HBA2.out HG4.out (by simp)
  have HBA4 := hide ha4
  have a0 : w4.cell? ⟨w.heap.size, 0, none⟩ = some (.int .i64 op) := by rw [blk_cell ha4]; rfl
  have a1 : w4.cell? ⟨w.heap.size, 1, none⟩ = some (.int .i64 (-1)) := by rw [blk_cell ha4]; rfl
  have a2 : w4.cell? ⟨w.heap.size, 2, none⟩ = some (.int .i64 0) := by rw [blk_cell ha4]; rfl
  have a3 : w4.cell? ⟨w.heap.size, 3, none⟩ = some (.int .i64 0) := by rw [blk_cell ha4]; rfl
  have a4 : w4.cell? ⟨w.heap.size, 4, none⟩ = some (.int .i64 0) := by rw [blk_cell ha4]; rfl
  have a5 : w4.cell? ⟨w.heap.size, 5, none⟩ = some (.int .i64 0) := by rw [blk_cell ha4]; rfl
  have a6 : w4.cell? ⟨w.heap.size, 6, none⟩ = some (.int .i64 0) := by rw [blk_cell ha4]; rfl
  have a7 : w4.cell? ⟨w.heap.size, 7, none⟩ = some (.slice none 0 0) := by rw [blk_cell ha4]; rfl
  have a8 : w4.cell? ⟨w.heap.size, 8, none⟩ = some (.slice none 0 0) := by rw [blk_cell ha4]; rfl
  have a9 : w4.cell? ⟨w.heap.size, 9, none⟩ = some (.slice none 0 0) := by rw [blk_cell ha4]; rfl
  have a10 : w4.cell? ⟨w.heap.size, 10, none⟩ = some (.int .i64 0) := by rw [blk_cell ha4]; rfl
  have a11 : w4.cell? ⟨w.heap.size, 11, none⟩ = some (.slice none 0 0) := by rw [blk_cell ha4]; rfl
  have a12 : w4.cell? ⟨w.heap.size, 12, none⟩ = some (.slice none 0 0) := by rw [blk_cell ha4]; rfl
  have a13 : w4.cell? ⟨w.heap.size, 13, none⟩ = some (.slice none 0 0) := by rw [blk_cell ha4]; rfl
  have a14 : w4.cell? ⟨w.heap.size, 14, none⟩ = some (.int .i64 0) := by rw [blk_cell ha4]; rfl
  have c0 := blk_frozen ha4 0
  have c1 := blk_frozen ha4 1
  have c2 := blk_frozen ha4 2
  have c3 := blk_frozen ha4 3
  have c4 := blk_frozen ha4 4
  have c5 := blk_frozen ha4 5
  have c6 := blk_frozen ha4 6
  have c7 := blk_frozen ha4 7
  have c8 := blk_frozen ha4 8
  have c9 := blk_frozen ha4 9
  have c10 := blk_frozen ha4 10
  have c11 := blk_frozen ha4 11
  have c12 := blk_frozen ha4 12
  have c13 := blk_frozen ha4 13
  have c14 := blk_frozen ha4 14
  clear ht4 ha4
  go_cut [] (fun wd => (wd.heap[w.heap.size]? = some (.cells #[.int .i64 op, .int .i64 (-1), .int .i64 0, .int .i64 0, .int .i64 (sm / 4294967296), .int .i64 (sm % 4294967296), .int .i64 0, .slice none 0 0, .slice none 0 0, .slice none 0 0, .int .i64 0, .slice none 0 0, .slice none 0 0, .slice none 0 0, .int .i64 0] 54 (0, 0)) ∧ wd.heap[w.heap.size + 1]? = some (.cells #[.int .i64 op, .int .i64 2, .int .i64 n, .int .i64 s, .int .i64 (sm / 4294967296), .int .i64 (sm % 4294967296), .int .i64 ft, .slice fA fl fc, .slice gA gl gc, .slice hA hl hc, .int .i64 0, .slice none 0 0, .slice none 0 0, .slice none 0 0, .int .i64 0] 54 (0, 0)) ∧ wd.heap[w.heap.size + 1 + 1]? = some (.cells #[.int .i64 0, .int .i64 0, .int .i64 0, .int .i64 0, .int .i64 0, .int .i64 0, .int .i64 0, .slice none 0 0, .slice none 0 0, .slice none 0 0, .int .i64 0, .slice none 0 0, .slice none 0 0, .slice none 0 0, .int .i64 0] 54 (0, 0))) ∧ w.grownBy wd none)
  case first =>
    go_region_law (fail)
    all_goals
      go_wp2_with fail
      go_meet
      case rel =>
        refine ⟨⟨blk_set (blk_set HBA4.out 4 _) 5 _, ?_, ?_⟩, ?_⟩
        · exact (Below.heap_setCell _ ⟨w.heap.size, 5, none⟩ _ _ (show w.heap.size + 1 ≠ w.heap.size by omega)).trans ((Below.heap_setCell _ ⟨w.heap.size, 4, none⟩ _ _ (show w.heap.size + 1 ≠ w.heap.size by omega)).trans (blk_keep HB2.out HG4.out (by simp)))
        · exact (Below.heap_setCell _ ⟨w.heap.size, 5, none⟩ _ _ (show w.heap.size + 1 + 1 ≠ w.heap.size by omega)).trans ((Below.heap_setCell _ ⟨w.heap.size, 4, none⟩ _ _ (show w.heap.size + 1 + 1 ≠ w.heap.size by omega)).trans (blk_keep HZ2.out HG4.out (by simp)))
        · exact gb_drew (gb_setCell (gb_setCell (gb_trans HW2.out HG4.out (.inl rfl)) (.inr (Nat.le_refl _)) _) (.inr (Nat.le_refl _)) _)
  case rest =>
    obtain ⟨⟨hda, hdb, hdz⟩, hgd⟩ := hcut
    have HGD := hide hgd
    have HDA := hide hda
    have HDZ := hide hdz
    clear s0 s1 a0 a1 a2 a3 a4 a5 a6 a7 a8 a9 a10 a11 a12 a13 a14 c0 c1 c2 c3 c4 c5 c6 c7 c8 c9 c10 c11 c12 c13 c14 hgd
    have a0 : wc.cell? ⟨w.heap.size, 0, none⟩ = some (.int .i64 op) := by rw [blk_cell hda]; rfl
    have a1 : wc.cell? ⟨w.heap.size, 1, none⟩ = some (.int .i64 (-1)) := by rw [blk_cell hda]; rfl
    have a2 : wc.cell? ⟨w.heap.size, 2, none⟩ = some (.int .i64 0) := by rw [blk_cell hda]; rfl
    have a3 : wc.cell? ⟨w.heap.size, 3, none⟩ = some (.int .i64 0) := by rw [blk_cell hda]; rfl
    have a4 : wc.cell? ⟨w.heap.size, 4, none⟩ = some (.int .i64 (sm / 4294967296)) := by rw [blk_cell hda]; rfl
    have a5 : wc.cell? ⟨w.heap.size, 5, none⟩ = some (.int .i64 (sm % 4294967296)) := by rw [blk_cell hda]; rfl
    have a6 : wc.cell? ⟨w.heap.size, 6, none⟩ = some (.int .i64 0) := by rw [blk_cell hda]; rfl
    have a7 : wc.cell? ⟨w.heap.size, 7, none⟩ = some (.slice none 0 0) := by rw [blk_cell hda]; rfl
    have a8 : wc.cell? ⟨w.heap.size, 8, none⟩ = some (.slice none 0 0) := by rw [blk_cell hda]; rfl
    have a9 : wc.cell? ⟨w.heap.size, 9, none⟩ = some (.slice none 0 0) := by rw [blk_cell hda]; rfl
    have a10 : wc.cell? ⟨w.heap.size, 10, none⟩ = some (.int .i64 0) := by rw [blk_cell hda]; rfl
    have a11 : wc.cell? ⟨w.heap.size, 11, none⟩ = some (.slice none 0 0) := by rw [blk_cell hda]; rfl
    have a12 : wc.cell? ⟨w.heap.size, 12, none⟩ = some (.slice none 0 0) := by rw [blk_cell hda]; rfl
    have a13 : wc.cell? ⟨w.heap.size, 13, none⟩ = some (.slice none 0 0) := by rw [blk_cell hda]; rfl
    have a14 : wc.cell? ⟨w.heap.size, 14, none⟩ = some (.int .i64 0) := by rw [blk_cell hda]; rfl
    have c0 := blk_frozen hda 0
    have c1 := blk_frozen hda 1
    have c2 := blk_frozen hda 2
    have c3 := blk_frozen hda 3
    have c4 := blk_frozen hda 4
    have c5 := blk_frozen hda 5
    have c6 := blk_frozen hda 6
    have c7 := blk_frozen hda 7
    have c8 := blk_frozen hda 8
    have c9 := blk_frozen hda 9
    have c10 := blk_frozen hda 10
    have c11 := blk_frozen hda 11
    have c12 := blk_frozen hda 12
    have c13 := blk_frozen hda 13
    have c14 := blk_frozen hda 14
    have b0 : wc.cell? ⟨(w.heap.size + 1), 0, none⟩ = some (.int .i64 op) := by rw [blk_cell hdb]; rfl
    have b1 : wc.cell? ⟨(w.heap.size + 1), 1, none⟩ = some (.int .i64 2) := by rw [blk_cell hdb]; rfl
    have b2 : wc.cell? ⟨(w.heap.size + 1), 2, none⟩ = some (.int .i64 n) := by rw [blk_cell hdb]; rfl
    have b3 : wc.cell? ⟨(w.heap.size + 1), 3, none⟩ = some (.int .i64 s) := by rw [blk_cell hdb]; rfl
    have b4 : wc.cell? ⟨(w.heap.size + 1), 4, none⟩ = some (.int .i64 (sm / 4294967296)) := by rw [blk_cell hdb]; rfl
    have b5 : wc.cell? ⟨(w.heap.size + 1), 5, none⟩ = some (.int .i64 (sm % 4294967296)) := by rw [blk_cell hdb]; rfl
    have b6 : wc.cell? ⟨(w.heap.size + 1), 6, none⟩ = some (.int .i64 ft) := by rw [blk_cell hdb]; rfl
    have b7 : wc.cell? ⟨(w.heap.size + 1), 7, none⟩ = some (.slice fA fl fc) := by rw [blk_cell hdb]; rfl
    have b8 : wc.cell? ⟨(w.heap.size + 1), 8, none⟩ = some (.slice gA gl gc) := by rw [blk_cell hdb]; rfl
    have b9 : wc.cell? ⟨(w.heap.size + 1), 9, none⟩ = some (.slice hA hl hc) := by rw [blk_cell hdb]; rfl
    have b10 : wc.cell? ⟨(w.heap.size + 1), 10, none⟩ = some (.int .i64 0) := by rw [blk_cell hdb]; rfl
    have b11 : wc.cell? ⟨(w.heap.size + 1), 11, none⟩ = some (.slice none 0 0) := by rw [blk_cell hdb]; rfl
    have b12 : wc.cell? ⟨(w.heap.size + 1), 12, none⟩ = some (.slice none 0 0) := by rw [blk_cell hdb]; rfl
    have b13 : wc.cell? ⟨(w.heap.size + 1), 13, none⟩ = some (.slice none 0 0) := by rw [blk_cell hdb]; rfl
    have b14 : wc.cell? ⟨(w.heap.size + 1), 14, none⟩ = some (.int .i64 0) := by rw [blk_cell hdb]; rfl
    clear hda hdb hdz
    go_upto_region 23 with fail
    obtain ⟨w9, hw9⟩ : ∃ w9, w9 = (((wc.setCell ⟨w.heap.size, 1, none⟩ (.int .i64 2)).setCell ⟨w.heap.size, 2, none⟩ (.int .i64 n)).setCell ⟨w.heap.size, 3, none⟩ (.int .i64 s)) := ⟨_, rfl⟩
    rw [← hw9]
    have ha9 : w9.heap[w.heap.size]? = some (.cells #[.int .i64 op, .int .i64 2, .int .i64 n, .int .i64 s, .int .i64 (sm / 4294967296), .int .i64 (sm % 4294967296), .int .i64 0, .slice none 0 0, .slice none 0 0, .slice none 0 0, .int .i64 0, .slice none 0 0, .slice none 0 0, .slice none 0 0, .int .i64 0] 54 (0, 0)) := by rw [hw9]; exact blk_set (blk_set (blk_set HDA.out 1 _) 2 _) 3 _
    have hz9 : w9.heap[w.heap.size + 1 + 1]? = some (.cells #[.int .i64 0, .int .i64 0, .int .i64 0, .int .i64 0, .int .i64 0, .int .i64 0, .int .i64 0, .slice none 0 0, .slice none 0 0, .slice none 0 0, .int .i64 0, .slice none 0 0, .slice none 0 0, .slice none 0 0, .int .i64 0] 54 (0, 0)) := by rw [hw9]; exact (Below.heap_setCell _ ⟨w.heap.size, 3, none⟩ _ _ (show w.heap.size + 1 + 1 ≠ w.heap.size by omega)).trans ((Below.heap_setCell _ ⟨w.heap.size, 2, none⟩ _ _ (show w.heap.size + 1 + 1 ≠ w.heap.size by omega)).trans ((Below.heap_setCell _ ⟨w.heap.size, 1, none⟩ _ _ (show w.heap.size + 1 + 1 ≠ w.heap.size by omega)).trans HDZ.out))
    have HG9 := hide (show w.grownBy w9 none by rw [hw9]; exact gb_setCell (gb_setCell (gb_setCell HGD.out (.inr (Nat.le_refl _)) _) (.inr (Nat.le_refl _)) _) (.inr (Nat.le_refl _)) _)
    have HBZ9 := hide hz9
    clear hw9 a0 a1 a2 a3 a4 a5 a6 a7 a8 a9 a10 a11 a12 a13 a14 b0 b1 b2 b3 b4 b5 b6 b7 b8 b9 b10 b11 b12 b13 b14 c0 c1 c2 c3 c4 c5 c6 c7 c8 c9 c10 c11 c12 c13 c14
    have a0 : w9.cell? ⟨w.heap.size, 0, none⟩ = some (.int .i64 op) := by rw [blk_cell ha9]; rfl
    have a1 : w9.cell? ⟨w.heap.size, 1, none⟩ = some (.int .i64 2) := by rw [blk_cell ha9]; rfl
    have a2 : w9.cell? ⟨w.heap.size, 2, none⟩ = some (.int .i64 n) := by rw [blk_cell ha9]; rfl
    have a3 : w9.cell? ⟨w.heap.size, 3, none⟩ = some (.int .i64 s) := by rw [blk_cell ha9]; rfl
    have a4 : w9.cell? ⟨w.heap.size, 4, none⟩ = some (.int .i64 (sm / 4294967296)) := by rw [blk_cell ha9]; rfl
    have a5 : w9.cell? ⟨w.heap.size, 5, none⟩ = some (.int .i64 (sm % 4294967296)) := by rw [blk_cell ha9]; rfl
    have a6 : w9.cell? ⟨w.heap.size, 6, none⟩ = some (.int .i64 0) := by rw [blk_cell ha9]; rfl
    have a7 : w9.cell? ⟨w.heap.size, 7, none⟩ = some (.slice none 0 0) := by rw [blk_cell ha9]; rfl
    have a8 : w9.cell? ⟨w.heap.size, 8, none⟩ = some (.slice none 0 0) := by rw [blk_cell ha9]; rfl
    have a9 : w9.cell? ⟨w.heap.size, 9, none⟩ = some (.slice none 0 0) := by rw [blk_cell ha9]; rfl
    have a10 : w9.cell? ⟨w.heap.size, 10, none⟩ = some (.int .i64 0) := by rw [blk_cell ha9]; rfl
    have a11 : w9.cell? ⟨w.heap.size, 11, none⟩ = some (.slice none 0 0) := by rw [blk_cell ha9]; rfl
    have a12 : w9.cell? ⟨w.heap.size, 12, none⟩ = some (.slice none 0 0) := by rw [blk_cell ha9]; rfl
    have a13 : w9.cell? ⟨w.heap.size, 13, none⟩ = some (.slice none 0 0) := by rw [blk_cell ha9]; rfl
    have a14 : w9.cell? ⟨w.heap.size, 14, none⟩ = some (.int .i64 0) := by rw [blk_cell ha9]; rfl
    have y0 : w9.cell? ⟨(w.heap.size + 1 + 1), 0, none⟩ = some (.int .i64 0) := by rw [blk_cell hz9]; rfl
    have y1 : w9.cell? ⟨(w.heap.size + 1 + 1), 1, none⟩ = some (.int .i64 0) := by rw [blk_cell hz9]; rfl
    have y2 : w9.cell? ⟨(w.heap.size + 1 + 1), 2, none⟩ = some (.int .i64 0) := by rw [blk_cell hz9]; rfl
    have y3 : w9.cell? ⟨(w.heap.size + 1 + 1), 3, none⟩ = some (.int .i64 0) := by rw [blk_cell hz9]; rfl
    have y4 : w9.cell? ⟨(w.heap.size + 1 + 1), 4, none⟩ = some (.int .i64 0) := by rw [blk_cell hz9]; rfl
    have y5 : w9.cell? ⟨(w.heap.size + 1 + 1), 5, none⟩ = some (.int .i64 0) := by rw [blk_cell hz9]; rfl
    have y6 : w9.cell? ⟨(w.heap.size + 1 + 1), 6, none⟩ = some (.int .i64 0) := by rw [blk_cell hz9]; rfl
    have y7 : w9.cell? ⟨(w.heap.size + 1 + 1), 7, none⟩ = some (.slice none 0 0) := by rw [blk_cell hz9]; rfl
    have y8 : w9.cell? ⟨(w.heap.size + 1 + 1), 8, none⟩ = some (.slice none 0 0) := by rw [blk_cell hz9]; rfl
    have y9 : w9.cell? ⟨(w.heap.size + 1 + 1), 9, none⟩ = some (.slice none 0 0) := by rw [blk_cell hz9]; rfl
    have y10 : w9.cell? ⟨(w.heap.size + 1 + 1), 10, none⟩ = some (.int .i64 0) := by rw [blk_cell hz9]; rfl
    have y11 : w9.cell? ⟨(w.heap.size + 1 + 1), 11, none⟩ = some (.slice none 0 0) := by rw [blk_cell hz9]; rfl
    have y12 : w9.cell? ⟨(w.heap.size + 1 + 1), 12, none⟩ = some (.slice none 0 0) := by rw [blk_cell hz9]; rfl
    have y13 : w9.cell? ⟨(w.heap.size + 1 + 1), 13, none⟩ = some (.slice none 0 0) := by rw [blk_cell hz9]; rfl
    have y14 : w9.cell? ⟨(w.heap.size + 1 + 1), 14, none⟩ = some (.int .i64 0) := by rw [blk_cell hz9]; rfl
    have x0 := blk_frozen hz9 0
    have x1 := blk_frozen hz9 1
    have x2 := blk_frozen hz9 2
    have x3 := blk_frozen hz9 3
    have x4 := blk_frozen hz9 4
    have x5 := blk_frozen hz9 5
    have x6 := blk_frozen hz9 6
    have x7 := blk_frozen hz9 7
    have x8 := blk_frozen hz9 8
    have x9 := blk_frozen hz9 9
    have x10 := blk_frozen hz9 10
    have x11 := blk_frozen hz9 11
    have x12 := blk_frozen hz9 12
    have x13 := blk_frozen hz9 13
    have x14 := blk_frozen hz9 14
    clear ha9 hz9
    go_wp2_with fail
    obtain ⟨wF, hwF⟩ : ∃ wF, wF = (((((((((((((((w9.setCell ⟨w.heap.size + 1 + 1, 0, none⟩ (.int .i64 op)).setCell ⟨w.heap.size + 1 + 1, 1, none⟩ (.int .i64 2)).setCell ⟨w.heap.size + 1 + 1, 2, none⟩ (.int .i64 n)).setCell ⟨w.heap.size + 1 + 1, 3, none⟩ (.int .i64 s)).setCell ⟨w.heap.size + 1 + 1, 4, none⟩ (.int .i64 (sm / 4294967296))).setCell ⟨w.heap.size + 1 + 1, 5, none⟩ (.int .i64 (sm % 4294967296))).setCell ⟨w.heap.size + 1 + 1, 6, none⟩ (.int .i64 0)).setCell ⟨w.heap.size + 1 + 1, 7, none⟩ (.slice none 0 0)).setCell ⟨w.heap.size + 1 + 1, 8, none⟩ (.slice none 0 0)).setCell ⟨w.heap.size + 1 + 1, 9, none⟩ (.slice none 0 0)).setCell ⟨w.heap.size + 1 + 1, 10, none⟩ (.int .i64 0)).setCell ⟨w.heap.size + 1 + 1, 11, none⟩ (.slice none 0 0)).setCell ⟨w.heap.size + 1 + 1, 12, none⟩ (.slice none 0 0)).setCell ⟨w.heap.size + 1 + 1, 13, none⟩ (.slice none 0 0)).setCell ⟨w.heap.size + 1 + 1, 14, none⟩ (.int .i64 0)) := ⟨_, rfl⟩
    rw [← hwF]
    have hfin : wF.heap[(w.heap.size + 1 + 1)]? = some (.cells #[.int .i64 op, .int .i64 2, .int .i64 n, .int .i64 s, .int .i64 (sm / 4294967296), .int .i64 (sm % 4294967296), .int .i64 0, .slice none 0 0, .slice none 0 0, .slice none 0 0, .int .i64 0, .slice none 0 0, .slice none 0 0, .slice none 0 0, .int .i64 0] 54 (0, 0)) := by
      rw [hwF]
      have h := (blk_set (blk_set (blk_set (blk_set (blk_set (blk_set (blk_set (blk_set (blk_set (blk_set (blk_set (blk_set (blk_set (blk_set (blk_set HBZ9.out 0 (.int .i64 op)) 1 (.int .i64 2)) 2 (.int .i64 n)) 3 (.int .i64 s)) 4 (.int .i64 (sm / 4294967296))) 5 (.int .i64 (sm % 4294967296))) 6 (.int .i64 0)) 7 (.slice none 0 0)) 8 (.slice none 0 0)) 9 (.slice none 0 0)) 10 (.int .i64 0)) 11 (.slice none 0 0)) 12 (.slice none 0 0)) 13 (.slice none 0 0)) 14 (.int .i64 0))
      simp only [List.setIfInBounds_toArray, List.set_cons_succ, List.set_cons_zero] at h
      exact h
    have hgf : w9.grownBy wF (some (w.heap.size + 1 + 1)) := by rw [hwF]; exact gb_setCell (gb_setCell (gb_setCell (gb_setCell (gb_setCell (gb_setCell (gb_setCell (gb_setCell (gb_setCell (gb_setCell (gb_setCell (gb_setCell (gb_setCell (gb_setCell (gb_setCell (gb_refl w9 (some (w.heap.size + 1 + 1))) (.inl rfl) _) (.inl rfl) _) (.inl rfl) _) (.inl rfl) _) (.inl rfl) _) (.inl rfl) _) (.inl rfl) _) (.inl rfl) _) (.inl rfl) _) (.inl rfl) _) (.inl rfl) _) (.inl rfl) _) (.inl rfl) _) (.inl rfl) _) (.inl rfl) _
    clear hwF
    have m0 : wF.cell? ⟨w.heap.size + 1 + 1, 0, none⟩ = some (.int .i64 op) := by rw [blk_cell hfin]; rfl
    have m1 : wF.cell? ⟨w.heap.size + 1 + 1, 1, none⟩ = some (.int .i64 2) := by rw [blk_cell hfin]; rfl
    have m2 : wF.cell? ⟨w.heap.size + 1 + 1, 2, none⟩ = some (.int .i64 n) := by rw [blk_cell hfin]; rfl
    have m3 : wF.cell? ⟨w.heap.size + 1 + 1, 3, none⟩ = some (.int .i64 s) := by rw [blk_cell hfin]; rfl
    have m4 : wF.cell? ⟨w.heap.size + 1 + 1, 4, none⟩ = some (.int .i64 (sm / 4294967296)) := by rw [blk_cell hfin]; rfl
    have m5 : wF.cell? ⟨w.heap.size + 1 + 1, 5, none⟩ = some (.int .i64 (sm % 4294967296)) := by rw [blk_cell hfin]; rfl
    have m6 : wF.cell? ⟨w.heap.size + 1 + 1, 6, none⟩ = some (.int .i64 0) := by rw [blk_cell hfin]; rfl
    have m7 : wF.cell? ⟨w.heap.size + 1 + 1, 7, none⟩ = some (.slice none 0 0) := by rw [blk_cell hfin]; rfl
    have m8 : wF.cell? ⟨w.heap.size + 1 + 1, 8, none⟩ = some (.slice none 0 0) := by rw [blk_cell hfin]; rfl
    have m9 : wF.cell? ⟨w.heap.size + 1 + 1, 9, none⟩ = some (.slice none 0 0) := by rw [blk_cell hfin]; rfl
    have m10 : wF.cell? ⟨w.heap.size + 1 + 1, 10, none⟩ = some (.int .i64 0) := by rw [blk_cell hfin]; rfl
    have m11 : wF.cell? ⟨w.heap.size + 1 + 1, 11, none⟩ = some (.slice none 0 0) := by rw [blk_cell hfin]; rfl
    have m12 : wF.cell? ⟨w.heap.size + 1 + 1, 12, none⟩ = some (.slice none 0 0) := by rw [blk_cell hfin]; rfl
    have m13 : wF.cell? ⟨w.heap.size + 1 + 1, 13, none⟩ = some (.slice none 0 0) := by rw [blk_cell hfin]; rfl
    have m14 : wF.cell? ⟨w.heap.size + 1 + 1, 14, none⟩ = some (.int .i64 0) := by rw [blk_cell hfin]; rfl
    refine bodyPost_ret (v := .agg #[.int .i64 op, .int .i64 2, .int .i64 n, .int .i64 s, .int .i64 (sm / 4294967296), .int .i64 (sm % 4294967296), .int .i64 0, .slice none 0 0, .slice none 0 0, .slice none 0 0, .int .i64 0, .slice none 0 0, .slice none 0 0, .slice none 0 0, .int .i64 0]) (by simp [results, Tryz.results61, go_sem, m0, m1, m2, m3, m4, m5, m6, m7, m8, m9, m10, m11, m12, m13, m14]) rfl ?_
    exact ⟨rfl, gb_trans HG9.out hgf (.inr (.inr ⟨_, rfl, by omega⟩))⟩
end Go.Proofs.YtgepejnooghjbaaGreat
