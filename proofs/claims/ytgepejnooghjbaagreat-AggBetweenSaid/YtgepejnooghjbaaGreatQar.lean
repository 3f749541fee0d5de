/-
  agg.surpasses where nothing has come to the other one.
-/
import Derived.Test.YtgepejnooghjbaaGreatQan
import Derived.Test.YtgepejnooghjbaaGreatQak

namespace Go.Proofs.YtgepejnooghjbaaGreat
open Go.RowKit
attribute [local go_sem ↓] Go.wp_at_zero Go.wp_at_succ

set_option maxHeartbeats 4000000 in
set_option maxRecDepth 100000 in
theorem piece3_sum (l : List Int) (hI : ∀ k ∈ l, I64 k) (hl6 : l.length ≤ 400000) (w : World) (B : Nat) (nA : Option Addr) (nc : Nat) (sA : Option Addr) (sc : Nat) (lA : Option Addr) (lc : Nat) (ht : (Vl.mk 2 l [] []).tot ≤ 500000) (hB : B ≤ w.heap.size) (h : VB w B (.mk 2 l [] []) nA nc sA sc lA lc) : Calls Tryz.prog 62 #[.int .i64 3, .agg #[.int .i64 2, .slice nA l.length nc, .slice sA 0 sc, .slice lA 0 lc]] w (AccP 3 2 l.length (nnI l) (sumL l) (emp8) w) := by
  have hl : l.length ≤ 1100000 := by omega
  obtain ⟨wa, hwa⟩ : ∃ wa, wa = ((w.alloc (.cells #[.int .i64 2, .slice nA l.length nc, .slice sA 0 sc, .slice lA 0 lc] 26)).alloc (.cells #[.int .i64 0, .int .i64 0, .int .i64 0, .int .i64 0, .int .i64 0, .int .i64 0, .int .i64 0, .slice none 0 0, .slice none 0 0, .slice none 0 0, .int .i64 0, .slice none 0 0, .slice none 0 0, .slice none 0 0, .int .i64 0] 54)).alloc (.cells #[.int .i64 3, .int .i64 (-1), .int .i64 0, .int .i64 0, .int .i64 0, .int .i64 0, .int .i64 0, .slice none 0 0, .slice none 0 0, .slice none 0 0, .int .i64 0, .slice none 0 0, .slice none 0 0, .slice none 0 0, .int .i64 0] 54) := ⟨_, rfl⟩
  have bx : wa.heap[w.heap.size]? = some (.cells #[.int .i64 2, .slice nA l.length nc, .slice sA 0 sc, .slice lA 0 lc] 26 (0, 0)) := by rw [hwa]; exact (Below.heap_alloc _ _ _ (by rw [World.size_alloc, World.size_alloc]; omega)).trans ((Below.heap_alloc _ _ _ (by rw [World.size_alloc]; omega)).trans (heap_alloc_new w _))
  have bz : wa.heap[(w.heap.size + 1)]? = some (.cells #[.int .i64 0, .int .i64 0, .int .i64 0, .int .i64 0, .int .i64 0, .int .i64 0, .int .i64 0, .slice none 0 0, .slice none 0 0, .slice none 0 0, .int .i64 0, .slice none 0 0, .slice none 0 0, .slice none 0 0, .int .i64 0] 54 (0, 0)) := by rw [hwa]; refine (Below.heap_alloc _ _ _ (by rw [World.size_alloc, World.size_alloc]; omega)).trans ?_; have := heap_alloc_new (w.alloc (.cells #[.int .i64 2, .slice nA l.length nc, .slice sA 0 sc, .slice lA 0 lc] 26)) (.cells #[.int .i64 0, .int .i64 0, .int .i64 0, .int .i64 0, .int .i64 0, .int .i64 0, .int .i64 0, .slice none 0 0, .slice none 0 0, .slice none 0 0, .int .i64 0, .slice none 0 0, .slice none 0 0, .slice none 0 0, .int .i64 0] 54); rwa [World.size_alloc] at this
  have b5 : wa.heap[(w.heap.size + 1 + 1)]? = some (.cells #[.int .i64 3, .int .i64 (-1), .int .i64 0, .int .i64 0, .int .i64 0, .int .i64 0, .int .i64 0, .slice none 0 0, .slice none 0 0, .slice none 0 0, .int .i64 0, .slice none 0 0, .slice none 0 0, .slice none 0 0, .int .i64 0] 54 (0, 0)) := by rw [hwa]; have := heap_alloc_new ((w.alloc (.cells #[.int .i64 2, .slice nA l.length nc, .slice sA 0 sc, .slice lA 0 lc] 26)).alloc (.cells #[.int .i64 0, .int .i64 0, .int .i64 0, .int .i64 0, .int .i64 0, .int .i64 0, .int .i64 0, .slice none 0 0, .slice none 0 0, .slice none 0 0, .int .i64 0, .slice none 0 0, .slice none 0 0, .slice none 0 0, .int .i64 0] 54)) (.cells #[.int .i64 3, .int .i64 (-1), .int .i64 0, .int .i64 0, .int .i64 0, .int .i64 0, .int .i64 0, .slice none 0 0, .slice none 0 0, .slice none 0 0, .int .i64 0, .slice none 0 0, .slice none 0 0, .slice none 0 0, .int .i64 0] 54); rwa [World.size_alloc, World.size_alloc] at this
  have HBX := hide bx
  have HBZ := hide bz
  have HB5 := hide b5
  have HSZ := hide (show wa.heap.size = w.heap.size + 3 by rw [hwa]; simp)
  have HG := hide (show w.grownBy wa none by rw [hwa]; exact gb_alloc (gb_alloc (gb_alloc (gb_refl w none) _) _) _)
  have HWE := hide hwa
  have HCN : Hid (∀ w2, w.grownBy w2 none → Calls Tryz.prog 35 #[.agg #[.int .i64 2, .slice nA l.length nc, .slice sA 0 sc, .slice lA 0 lc]] w2 fun e w' => e = .returned (.int .i64 (l.length : Nat)) ∧ w2.grownBy w' none) := hide (fun w2 hg => count_d (Vl.mk 2 l [] []).depth (Vl.mk 2 l [] []) w2 B nA nc sA sc lA lc (Nat.le_refl _) (by omega) (Nat.le_trans hB hg.size) (h.gb hg hB))
  have HSM := hide (fun w2 (hg : w.grownBy w2 none) => some_int l w2 B nA nc sA sc lA lc (by omega) (Nat.le_trans hB hg.size) (h.gb hg hB))
  have HTK := hide (fun w2 => takes_int 3 (by decide) (by decide) w2)
  have HL := hide hl
  have HL6 := hide hl6
  have HSF := hide (fun w2 (hg : w.grownBy w2 none) => sumOf_any l w2 B nA nc (by omega) hI (Nat.le_trans hB hg.size) (vat_int (h.gb hg hB)))
  have hnn := nnI_le l
  have HNN := hide hnn
  obtain ⟨c0, c1, c2, c3⟩ : C4 wa w.heap.size 0 (.int .i64 2) (.slice nA l.length nc) (.slice sA 0 sc) (.slice lA 0 lc) := (by have h := blk_keep HBX.out (gb_refl wa none) (by simp); exact ⟨by rw [blk_cell h]; rfl, by rw [blk_cell h]; rfl, by rw [blk_cell h]; rfl, by rw [blk_cell h]; rfl⟩)
  clear bx bz b5 hwa h hB ht hl hI hl6 hnn
  go_enter Tryz.func62, Tryz.ntmps62
  go_upto_region 2 with fail
  rw [← HWE.out]
  go_upto_region 6 with (first
    | (go_at_call 38; refine (HTK.out _).mono ?_; rintro e w1 ⟨rfl, rfl⟩)
    | (go_at_call 35; refine (HCN.out _ HG.out).mono ?_; rintro e w2 ⟨rfl, hg2⟩; have HG2 := hide hg2; clear hg2 c0 c1 c2 c3))
  obtain ⟨c0, c1, c2, c3⟩ : C4 w2 w.heap.size 0 (.int .i64 2) (.slice nA l.length nc) (.slice sA 0 sc) (.slice lA 0 lc) := (by have h := blk_keep HBX.out HG2.out (by simp); exact ⟨by rw [blk_cell h]; rfl, by rw [blk_cell h]; rfl, by rw [blk_cell h]; rfl, by rw [blk_cell h]; rfl⟩)
  have hb2 := blk_keep HB5.out HG2.out (by simp)
  have a0 : w2.cell? ⟨(w.heap.size + 1 + 1), 0, none⟩ = some (.int .i64 3) := by rw [blk_cell hb2]; rfl
  have a1 : w2.cell? ⟨(w.heap.size + 1 + 1), 1, none⟩ = some (.int .i64 (-1)) := by rw [blk_cell hb2]; rfl
  have a2 : w2.cell? ⟨(w.heap.size + 1 + 1), 2, none⟩ = some (.int .i64 0) := by rw [blk_cell hb2]; rfl
  have a3 : w2.cell? ⟨(w.heap.size + 1 + 1), 3, none⟩ = some (.int .i64 0) := by rw [blk_cell hb2]; rfl
  have a4 : w2.cell? ⟨(w.heap.size + 1 + 1), 4, none⟩ = some (.int .i64 0) := by rw [blk_cell hb2]; rfl
  have a5 : w2.cell? ⟨(w.heap.size + 1 + 1), 5, none⟩ = some (.int .i64 0) := by rw [blk_cell hb2]; rfl
  have a6 : w2.cell? ⟨(w.heap.size + 1 + 1), 6, none⟩ = some (.int .i64 0) := by rw [blk_cell hb2]; rfl
  have a7 : w2.cell? ⟨(w.heap.size + 1 + 1), 7, none⟩ = some (.slice none 0 0) := by rw [blk_cell hb2]; rfl
  have a8 : w2.cell? ⟨(w.heap.size + 1 + 1), 8, none⟩ = some (.slice none 0 0) := by rw [blk_cell hb2]; rfl
  have a9 : w2.cell? ⟨(w.heap.size + 1 + 1), 9, none⟩ = some (.slice none 0 0) := by rw [blk_cell hb2]; rfl
  have a10 : w2.cell? ⟨(w.heap.size + 1 + 1), 10, none⟩ = some (.int .i64 0) := by rw [blk_cell hb2]; rfl
  have a11 : w2.cell? ⟨(w.heap.size + 1 + 1), 11, none⟩ = some (.slice none 0 0) := by rw [blk_cell hb2]; rfl
  have a12 : w2.cell? ⟨(w.heap.size + 1 + 1), 12, none⟩ = some (.slice none 0 0) := by rw [blk_cell hb2]; rfl
  have a13 : w2.cell? ⟨(w.heap.size + 1 + 1), 13, none⟩ = some (.slice none 0 0) := by rw [blk_cell hb2]; rfl
  have a14 : w2.cell? ⟨(w.heap.size + 1 + 1), 14, none⟩ = some (.int .i64 0) := by rw [blk_cell hb2]; rfl
  have z0 := blk_frozen hb2 0
  have z1 := blk_frozen hb2 1
  have z2 := blk_frozen hb2 2
  have z3 := blk_frozen hb2 3
  have z4 := blk_frozen hb2 4
  have z5 := blk_frozen hb2 5
  have z6 := blk_frozen hb2 6
  have z7 := blk_frozen hb2 7
  have z8 := blk_frozen hb2 8
  have z9 := blk_frozen hb2 9
  have z10 := blk_frozen hb2 10
  have z11 := blk_frozen hb2 11
  have z12 := blk_frozen hb2 12
  have z13 := blk_frozen hb2 13
  have z14 := blk_frozen hb2 14
  clear hb2
  go_cut [] (fun wc => (wc.heap[(w.heap.size + 1 + 1)]? = some (.cells #[.int .i64 3, .int .i64 2, .int .i64 (l.length : Int), .int .i64 (nnI l : Int), .int .i64 0, .int .i64 0, .int .i64 0, .slice none 0 0, .slice none 0 0, .slice none 0 0, .int .i64 0, .slice none 0 0, .slice none 0 0, .slice none 0 0, .int .i64 0] 54 (0, 0)) ∧ wc.heap[w.heap.size + 1]? = some (.cells #[.int .i64 0, .int .i64 0, .int .i64 0, .int .i64 0, .int .i64 0, .int .i64 0, .int .i64 0, .slice none 0 0, .slice none 0 0, .slice none 0 0, .int .i64 0, .slice none 0 0, .slice none 0 0, .slice none 0 0, .int .i64 0] 54 (0, 0)) ∧ wc.heap[w.heap.size]? = some (.cells #[.int .i64 2, .slice nA l.length nc, .slice sA 0 sc, .slice lA 0 lc] 26 (0, 0))) ∧ w.grownBy wc none ∧ w.heap.size + 3 ≤ wc.heap.size)
  case first =>
    go_region_law ((go_simp; go_at_call 93; refine (HSM.out w2.drew (gb_trans HG.out (gb_drew HG2.out) (.inl rfl))).mono ?_; rintro e w3 ⟨rfl, hg3⟩; have HG3 := hide (show w2.grownBy w3 none from ⟨hg3.os, hg3.tape, hg3.output, hg3.size, hg3.block⟩); clear hg3 c0 c1 c2 c3 a0 a1 a2 a3 a4 a5 a6 a7 a8 a9 a10 a11 a12 a13 a14 z0 z1 z2 z3 z4 z5 z6 z7 z8 z9 z10 z11 z12 z13 z14; have hb3 := blk_keep HB5.out (gb_trans HG2.out HG3.out (.inl rfl)) (by simp); have HB3 := hide hb3; obtain ⟨c0, c1, c2, c3⟩ : C4 w3 w.heap.size 0 (.int .i64 2) (.slice nA l.length nc) (.slice sA 0 sc) (.slice lA 0 lc) := (by have h := blk_keep HBX.out (gb_trans HG2.out HG3.out (.inl rfl)) (by simp); exact ⟨by rw [blk_cell h]; rfl, by rw [blk_cell h]; rfl, by rw [blk_cell h]; rfl, by rw [blk_cell h]; rfl⟩); have a0 : w3.cell? ⟨(w.heap.size + 1 + 1), 0, none⟩ = some (.int .i64 3) := (by { rw [blk_cell hb3]; rfl }); have a1 : w3.cell? ⟨(w.heap.size + 1 + 1), 1, none⟩ = some (.int .i64 (-1)) := (by { rw [blk_cell hb3]; rfl }); have a2 : w3.cell? ⟨(w.heap.size + 1 + 1), 2, none⟩ = some (.int .i64 0) := (by { rw [blk_cell hb3]; rfl }); have a3 : w3.cell? ⟨(w.heap.size + 1 + 1), 3, none⟩ = some (.int .i64 0) := (by { rw [blk_cell hb3]; rfl }); have a4 : w3.cell? ⟨(w.heap.size + 1 + 1), 4, none⟩ = some (.int .i64 0) := (by { rw [blk_cell hb3]; rfl }); have a5 : w3.cell? ⟨(w.heap.size + 1 + 1), 5, none⟩ = some (.int .i64 0) := (by { rw [blk_cell hb3]; rfl }); have a6 : w3.cell? ⟨(w.heap.size + 1 + 1), 6, none⟩ = some (.int .i64 0) := (by { rw [blk_cell hb3]; rfl }); have a7 : w3.cell? ⟨(w.heap.size + 1 + 1), 7, none⟩ = some (.slice none 0 0) := (by { rw [blk_cell hb3]; rfl }); have a8 : w3.cell? ⟨(w.heap.size + 1 + 1), 8, none⟩ = some (.slice none 0 0) := (by { rw [blk_cell hb3]; rfl }); have a9 : w3.cell? ⟨(w.heap.size + 1 + 1), 9, none⟩ = some (.slice none 0 0) := (by { rw [blk_cell hb3]; rfl }); have a10 : w3.cell? ⟨(w.heap.size + 1 + 1), 10, none⟩ = some (.int .i64 0) := (by { rw [blk_cell hb3]; rfl }); have a11 : w3.cell? ⟨(w.heap.size + 1 + 1), 11, none⟩ = some (.slice none 0 0) := (by { rw [blk_cell hb3]; rfl }); have a12 : w3.cell? ⟨(w.heap.size + 1 + 1), 12, none⟩ = some (.slice none 0 0) := (by { rw [blk_cell hb3]; rfl }); have a13 : w3.cell? ⟨(w.heap.size + 1 + 1), 13, none⟩ = some (.slice none 0 0) := (by { rw [blk_cell hb3]; rfl }); have a14 : w3.cell? ⟨(w.heap.size + 1 + 1), 14, none⟩ = some (.int .i64 0) := (by { rw [blk_cell hb3]; rfl }); have z0 := blk_frozen hb3 0; have z1 := blk_frozen hb3 1; have z2 := blk_frozen hb3 2; have z3 := blk_frozen hb3 3; have z4 := blk_frozen hb3 4; have z5 := blk_frozen hb3 5; have z6 := blk_frozen hb3 6; have z7 := blk_frozen hb3 7; have z8 := blk_frozen hb3 8; have z9 := blk_frozen hb3 9; have z10 := blk_frozen hb3 10; have z11 := blk_frozen hb3 11; have z12 := blk_frozen hb3 12; have z13 := blk_frozen hb3 13; have z14 := blk_frozen hb3 14; clear hb3))
    all_goals
      go_wp2_with fail
      go_meet
      case rel =>
        have hg23 := gb_trans HG2.out HG3.out (.inl rfl)
        refine ⟨⟨blk_set (blk_set (blk_set HB3.out 1 _) 2 _) 3 _, ?_, ?_⟩, ?_, ?_⟩
        · exact (Below.heap_setCell _ ⟨w.heap.size + 1 + 1, 3, none⟩ _ _ (by simp)).trans ((Below.heap_setCell _ ⟨w.heap.size + 1 + 1, 2, none⟩ _ _ (by simp)).trans ((Below.heap_setCell _ ⟨w.heap.size + 1 + 1, 1, none⟩ _ _ (by simp)).trans (blk_keep HBZ.out hg23 (by simp))))
        · exact (Below.heap_setCell _ ⟨w.heap.size + 1 + 1, 3, none⟩ _ _ (show w.heap.size ≠ (w.heap.size + 1 + 1) by omega)).trans ((Below.heap_setCell _ ⟨w.heap.size + 1 + 1, 2, none⟩ _ _ (show w.heap.size ≠ (w.heap.size + 1 + 1) by omega)).trans ((Below.heap_setCell _ ⟨w.heap.size + 1 + 1, 1, none⟩ _ _ (show w.heap.size ≠ (w.heap.size + 1 + 1) by omega)).trans (blk_keep HBX.out hg23 (by simp))))
        · exact gb_setCell (gb_setCell (gb_setCell (gb_trans HG.out hg23 (.inl rfl)) (.inr (show w.heap.size ≤ w.heap.size + 1 + 1 by omega)) _) (.inr (show w.heap.size ≤ w.heap.size + 1 + 1 by omega)) _) (.inr (show w.heap.size ≤ w.heap.size + 1 + 1 by omega)) _
        · have := HSZ.out
          have := hg23.size
          simp [World.setCell]
          omega
  case rest =>
    obtain ⟨⟨hb5, hbz, hbx⟩, hgc, hsz⟩ := hcut
    have HB5c := hide hb5
    have HBZc := hide hbz
    have HBXc := hide hbx
    have HGC := hide hgc
    have HSZc := hide hsz
    clear HB5 HBZ HBX HG2 HG HSZ HWE hgc hsz hbx hbz hb5 a0 a1 a2 a3 a4 a5 a6 a7 a8 a9 a10 a11 a12 a13 a14 z0 z1 z2 z3 z4 z5 z6 z7 z8 z9 z10 z11 z12 z13 z14 c0 c1 c2 c3
    obtain ⟨sm, hsm⟩ : ∃ sm, sm = sumL l := ⟨_, rfl⟩
    have hsf : Calls Tryz.prog 96 #[.slice nA l.length nc] wc fun e w' => e = .returned (.agg #[.int .i64 (sm / 4294967296), .int .i64 (sm % 4294967296)]) ∧ wc.grownBy w' none := by rw [hsm]; exact HSF.out wc HGC.out
    have HSFc := hide hsf
    have HSME := hide hsm
    obtain ⟨c0, c1, c2, c3⟩ : C4 wc w.heap.size 0 (.int .i64 2) (.slice nA l.length nc) (.slice sA 0 sc) (.slice lA 0 lc) := ⟨by rw [blk_cell HBXc.out]; rfl, by rw [blk_cell HBXc.out]; rfl, by rw [blk_cell HBXc.out]; rfl, by rw [blk_cell HBXc.out]; rfl⟩
    clear hsf hsm
    go_upto_region 19 with (go_at_call 96; refine HSFc.out.mono ?_; rintro e w8 ⟨rfl, hg8⟩; have HG8 := hide hg8; clear hg8 c0 c1 c2 c3)
    obtain ⟨w9, hw9⟩ : ∃ w9, w9 = w8.alloc (.cells #[.int .i64 (sm / 4294967296), .int .i64 (sm % 4294967296)] 65) := ⟨_, rfl⟩
    rw [← hw9]
    have ht9 : w9.heap[w8.heap.size]? = some (.cells #[.int .i64 (sm / 4294967296), .int .i64 (sm % 4294967296)] 65 (0, 0)) := by rw [hw9]; exact heap_alloc_new w8 _
    have HG9 := hide (show wc.grownBy w9 none by rw [hw9]; exact gb_trans HG8.out (gb_alloc (gb_refl w8 none) _) (.inl rfl))
    clear hw9
    have s0 : w9.cell? ⟨w8.heap.size, 0, none⟩ = some (.int .i64 (sm / 4294967296)) := by rw [blk_cell ht9]; rfl
    have s1 : w9.cell? ⟨w8.heap.size, 1, none⟩ = some (.int .i64 (sm % 4294967296)) := by rw [blk_cell ht9]; rfl
    have hb59 := blk_keep HB5c.out HG9.out (by simp)
    have HB59 := hide hb59
    have a0 : w9.cell? ⟨(w.heap.size + 1 + 1), 0, none⟩ = some (.int .i64 3) := by rw [blk_cell hb59]; rfl
    have a1 : w9.cell? ⟨(w.heap.size + 1 + 1), 1, none⟩ = some (.int .i64 2) := by rw [blk_cell hb59]; rfl
    have a2 : w9.cell? ⟨(w.heap.size + 1 + 1), 2, none⟩ = some (.int .i64 (l.length : Int)) := by rw [blk_cell hb59]; rfl
    have a3 : w9.cell? ⟨(w.heap.size + 1 + 1), 3, none⟩ = some (.int .i64 (nnI l : Int)) := by rw [blk_cell hb59]; rfl
    have a4 : w9.cell? ⟨(w.heap.size + 1 + 1), 4, none⟩ = some (.int .i64 0) := by rw [blk_cell hb59]; rfl
    have a5 : w9.cell? ⟨(w.heap.size + 1 + 1), 5, none⟩ = some (.int .i64 0) := by rw [blk_cell hb59]; rfl
    have a6 : w9.cell? ⟨(w.heap.size + 1 + 1), 6, none⟩ = some (.int .i64 0) := by rw [blk_cell hb59]; rfl
    have a7 : w9.cell? ⟨(w.heap.size + 1 + 1), 7, none⟩ = some (.slice none 0 0) := by rw [blk_cell hb59]; rfl
    have a8 : w9.cell? ⟨(w.heap.size + 1 + 1), 8, none⟩ = some (.slice none 0 0) := by rw [blk_cell hb59]; rfl
    have a9 : w9.cell? ⟨(w.heap.size + 1 + 1), 9, none⟩ = some (.slice none 0 0) := by rw [blk_cell hb59]; rfl
    have a10 : w9.cell? ⟨(w.heap.size + 1 + 1), 10, none⟩ = some (.int .i64 0) := by rw [blk_cell hb59]; rfl
    have a11 : w9.cell? ⟨(w.heap.size + 1 + 1), 11, none⟩ = some (.slice none 0 0) := by rw [blk_cell hb59]; rfl
    have a12 : w9.cell? ⟨(w.heap.size + 1 + 1), 12, none⟩ = some (.slice none 0 0) := by rw [blk_cell hb59]; rfl
    have a13 : w9.cell? ⟨(w.heap.size + 1 + 1), 13, none⟩ = some (.slice none 0 0) := by rw [blk_cell hb59]; rfl
    have a14 : w9.cell? ⟨(w.heap.size + 1 + 1), 14, none⟩ = some (.int .i64 0) := by rw [blk_cell hb59]; rfl
    have z0 := blk_frozen hb59 0
    have z1 := blk_frozen hb59 1
    have z2 := blk_frozen hb59 2
    have z3 := blk_frozen hb59 3
    have z4 := blk_frozen hb59 4
    have z5 := blk_frozen hb59 5
    have z6 := blk_frozen hb59 6
    have z7 := blk_frozen hb59 7
    have z8 := blk_frozen hb59 8
    have z9 := blk_frozen hb59 9
    have z10 := blk_frozen hb59 10
    have z11 := blk_frozen hb59 11
    have z12 := blk_frozen hb59 12
    have z13 := blk_frozen hb59 13
    have z14 := blk_frozen hb59 14
    clear ht9 hb59
    go_region_law (fail)
    all_goals
      go_upto_region 20 with fail
      obtain ⟨wd, hwd⟩ : ∃ wd, wd = ((w9.setCell ⟨w.heap.size + 1 + 1, 4, none⟩ (.int .i64 (sm / 4294967296))).setCell ⟨w.heap.size + 1 + 1, 5, none⟩ (.int .i64 (sm % 4294967296))).drew := ⟨_, rfl⟩
      rw [← hwd]
      have hd5 : wd.heap[(w.heap.size + 1 + 1)]? = some (.cells #[.int .i64 3, .int .i64 2, .int .i64 (l.length : Int), .int .i64 (nnI l : Int), .int .i64 (sm / 4294967296), .int .i64 (sm % 4294967296), .int .i64 0, .slice none 0 0, .slice none 0 0, .slice none 0 0, .int .i64 0, .slice none 0 0, .slice none 0 0, .slice none 0 0, .int .i64 0] 54 (0, 0)) := by rw [hwd]; exact blk_set (blk_set HB59.out 4 _) 5 _
      have hdz : wd.heap[(w.heap.size + 1)]? = some (.cells #[.int .i64 0, .int .i64 0, .int .i64 0, .int .i64 0, .int .i64 0, .int .i64 0, .int .i64 0, .slice none 0 0, .slice none 0 0, .slice none 0 0, .int .i64 0, .slice none 0 0, .slice none 0 0, .slice none 0 0, .int .i64 0] 54 (0, 0)) := by rw [hwd]; exact (Below.heap_setCell _ ⟨w.heap.size + 1 + 1, 5, none⟩ _ _ (by simp)).trans ((Below.heap_setCell _ ⟨w.heap.size + 1 + 1, 4, none⟩ _ _ (by simp)).trans (blk_keep HBZc.out HG9.out (by simp)))
      have HGD := hide (show w.grownBy wd none by rw [hwd]; exact gb_drew (gb_setCell (gb_setCell (gb_trans HGC.out HG9.out (.inl rfl)) (.inr (show w.heap.size ≤ w.heap.size + 1 + 1 by omega)) _) (.inr (show w.heap.size ≤ w.heap.size + 1 + 1 by omega)) _))
      have HBZ9 := hide hdz
      clear hwd s0 s1 a0 a1 a2 a3 a4 a5 a6 a7 a8 a9 a10 a11 a12 a13 a14 z0 z1 z2 z3 z4 z5 z6 z7 z8 z9 z10 z11 z12 z13 z14 HB59 HG9 HB5c HBZc HBXc HG8
      clear w9
      obtain ⟨w9, rfl⟩ : ∃ w9, w9 = wd := ⟨_, rfl⟩
      have a0 : w9.cell? ⟨(w.heap.size + 1 + 1), 0, none⟩ = some (.int .i64 3) := by rw [blk_cell hd5]; rfl
      have a1 : w9.cell? ⟨(w.heap.size + 1 + 1), 1, none⟩ = some (.int .i64 2) := by rw [blk_cell hd5]; rfl
      have a2 : w9.cell? ⟨(w.heap.size + 1 + 1), 2, none⟩ = some (.int .i64 (l.length : Int)) := by rw [blk_cell hd5]; rfl
      have a3 : w9.cell? ⟨(w.heap.size + 1 + 1), 3, none⟩ = some (.int .i64 (nnI l : Int)) := by rw [blk_cell hd5]; rfl
      have a4 : w9.cell? ⟨(w.heap.size + 1 + 1), 4, none⟩ = some (.int .i64 (sm / 4294967296)) := by rw [blk_cell hd5]; rfl
      have a5 : w9.cell? ⟨(w.heap.size + 1 + 1), 5, none⟩ = some (.int .i64 (sm % 4294967296)) := by rw [blk_cell hd5]; rfl
      have a6 : w9.cell? ⟨(w.heap.size + 1 + 1), 6, none⟩ = some (.int .i64 0) := by rw [blk_cell hd5]; rfl
      have a7 : w9.cell? ⟨(w.heap.size + 1 + 1), 7, none⟩ = some (.slice none 0 0) := by rw [blk_cell hd5]; rfl
      have a8 : w9.cell? ⟨(w.heap.size + 1 + 1), 8, none⟩ = some (.slice none 0 0) := by rw [blk_cell hd5]; rfl
      have a9 : w9.cell? ⟨(w.heap.size + 1 + 1), 9, none⟩ = some (.slice none 0 0) := by rw [blk_cell hd5]; rfl
      have a10 : w9.cell? ⟨(w.heap.size + 1 + 1), 10, none⟩ = some (.int .i64 0) := by rw [blk_cell hd5]; rfl
      have a11 : w9.cell? ⟨(w.heap.size + 1 + 1), 11, none⟩ = some (.slice none 0 0) := by rw [blk_cell hd5]; rfl
      have a12 : w9.cell? ⟨(w.heap.size + 1 + 1), 12, none⟩ = some (.slice none 0 0) := by rw [blk_cell hd5]; rfl
      have a13 : w9.cell? ⟨(w.heap.size + 1 + 1), 13, none⟩ = some (.slice none 0 0) := by rw [blk_cell hd5]; rfl
      have a14 : w9.cell? ⟨(w.heap.size + 1 + 1), 14, none⟩ = some (.int .i64 0) := by rw [blk_cell hd5]; rfl
      have y0 : w9.cell? ⟨(w.heap.size + 1), 0, none⟩ = some (.int .i64 0) := by rw [blk_cell hdz]; rfl
      have y1 : w9.cell? ⟨(w.heap.size + 1), 1, none⟩ = some (.int .i64 0) := by rw [blk_cell hdz]; rfl
      have y2 : w9.cell? ⟨(w.heap.size + 1), 2, none⟩ = some (.int .i64 0) := by rw [blk_cell hdz]; rfl
      have y3 : w9.cell? ⟨(w.heap.size + 1), 3, none⟩ = some (.int .i64 0) := by rw [blk_cell hdz]; rfl
      have y4 : w9.cell? ⟨(w.heap.size + 1), 4, none⟩ = some (.int .i64 0) := by rw [blk_cell hdz]; rfl
      have y5 : w9.cell? ⟨(w.heap.size + 1), 5, none⟩ = some (.int .i64 0) := by rw [blk_cell hdz]; rfl
      have y6 : w9.cell? ⟨(w.heap.size + 1), 6, none⟩ = some (.int .i64 0) := by rw [blk_cell hdz]; rfl
      have y7 : w9.cell? ⟨(w.heap.size + 1), 7, none⟩ = some (.slice none 0 0) := by rw [blk_cell hdz]; rfl
      have y8 : w9.cell? ⟨(w.heap.size + 1), 8, none⟩ = some (.slice none 0 0) := by rw [blk_cell hdz]; rfl
      have y9 : w9.cell? ⟨(w.heap.size + 1), 9, none⟩ = some (.slice none 0 0) := by rw [blk_cell hdz]; rfl
      have y10 : w9.cell? ⟨(w.heap.size + 1), 10, none⟩ = some (.int .i64 0) := by rw [blk_cell hdz]; rfl
      have y11 : w9.cell? ⟨(w.heap.size + 1), 11, none⟩ = some (.slice none 0 0) := by rw [blk_cell hdz]; rfl
      have y12 : w9.cell? ⟨(w.heap.size + 1), 12, none⟩ = some (.slice none 0 0) := by rw [blk_cell hdz]; rfl
      have y13 : w9.cell? ⟨(w.heap.size + 1), 13, none⟩ = some (.slice none 0 0) := by rw [blk_cell hdz]; rfl
      have y14 : w9.cell? ⟨(w.heap.size + 1), 14, none⟩ = some (.int .i64 0) := by rw [blk_cell hdz]; rfl
      have x0 := blk_frozen hdz 0
      have x1 := blk_frozen hdz 1
      have x2 := blk_frozen hdz 2
      have x3 := blk_frozen hdz 3
      have x4 := blk_frozen hdz 4
      have x5 := blk_frozen hdz 5
      have x6 := blk_frozen hdz 6
      have x7 := blk_frozen hdz 7
      have x8 := blk_frozen hdz 8
      have x9 := blk_frozen hdz 9
      have x10 := blk_frozen hdz 10
      have x11 := blk_frozen hdz 11
      have x12 := blk_frozen hdz 12
      have x13 := blk_frozen hdz 13
      have x14 := blk_frozen hdz 14
      clear hd5 hdz
      go_wp2_with fail
      obtain ⟨wF, hwF⟩ : ∃ wF, wF = (((((((((((((((w9.setCell ⟨w.heap.size + 1, 0, none⟩ (.int .i64 3)).setCell ⟨w.heap.size + 1, 1, none⟩ (.int .i64 2)).setCell ⟨w.heap.size + 1, 2, none⟩ (.int .i64 (l.length : Int))).setCell ⟨w.heap.size + 1, 3, none⟩ (.int .i64 (nnI l : Int))).setCell ⟨w.heap.size + 1, 4, none⟩ (.int .i64 (sm / 4294967296))).setCell ⟨w.heap.size + 1, 5, none⟩ (.int .i64 (sm % 4294967296))).setCell ⟨w.heap.size + 1, 6, none⟩ (.int .i64 0)).setCell ⟨w.heap.size + 1, 7, none⟩ (.slice none 0 0)).setCell ⟨w.heap.size + 1, 8, none⟩ (.slice none 0 0)).setCell ⟨w.heap.size + 1, 9, none⟩ (.slice none 0 0)).setCell ⟨w.heap.size + 1, 10, none⟩ (.int .i64 0)).setCell ⟨w.heap.size + 1, 11, none⟩ (.slice none 0 0)).setCell ⟨w.heap.size + 1, 12, none⟩ (.slice none 0 0)).setCell ⟨w.heap.size + 1, 13, none⟩ (.slice none 0 0)).setCell ⟨w.heap.size + 1, 14, none⟩ (.int .i64 0)) := ⟨_, rfl⟩
      rw [← hwF]
      have hfin : wF.heap[(w.heap.size + 1)]? = some (.cells #[.int .i64 3, .int .i64 2, .int .i64 (l.length : Int), .int .i64 (nnI l : Int), .int .i64 (sm / 4294967296), .int .i64 (sm % 4294967296), .int .i64 0, .slice none 0 0, .slice none 0 0, .slice none 0 0, .int .i64 0, .slice none 0 0, .slice none 0 0, .slice none 0 0, .int .i64 0] 54 (0, 0)) := by
        rw [hwF]
        have h := (blk_set (blk_set (blk_set (blk_set (blk_set (blk_set (blk_set (blk_set (blk_set (blk_set (blk_set (blk_set (blk_set (blk_set (blk_set HBZ9.out 0 (.int .i64 3)) 1 (.int .i64 2)) 2 (.int .i64 (l.length : Int))) 3 (.int .i64 (nnI l : Int))) 4 (.int .i64 (sm / 4294967296))) 5 (.int .i64 (sm % 4294967296))) 6 (.int .i64 0)) 7 (.slice none 0 0)) 8 (.slice none 0 0)) 9 (.slice none 0 0)) 10 (.int .i64 0)) 11 (.slice none 0 0)) 12 (.slice none 0 0)) 13 (.slice none 0 0)) 14 (.int .i64 0))
        simp only [List.setIfInBounds_toArray, List.set_cons_succ, List.set_cons_zero] at h
        exact h
      have hgf : w9.grownBy wF (some (w.heap.size + 1)) := by rw [hwF]; exact gb_setCell (gb_setCell (gb_setCell (gb_setCell (gb_setCell (gb_setCell (gb_setCell (gb_setCell (gb_setCell (gb_setCell (gb_setCell (gb_setCell (gb_setCell (gb_setCell (gb_setCell (gb_refl w9 (some (w.heap.size + 1))) (.inl rfl) _) (.inl rfl) _) (.inl rfl) _) (.inl rfl) _) (.inl rfl) _) (.inl rfl) _) (.inl rfl) _) (.inl rfl) _) (.inl rfl) _) (.inl rfl) _) (.inl rfl) _) (.inl rfl) _) (.inl rfl) _) (.inl rfl) _) (.inl rfl) _
      clear hwF
      have m0 : wF.cell? ⟨w.heap.size + 1, 0, none⟩ = some (.int .i64 3) := by rw [blk_cell hfin]; rfl
      have m1 : wF.cell? ⟨w.heap.size + 1, 1, none⟩ = some (.int .i64 2) := by rw [blk_cell hfin]; rfl
      have m2 : wF.cell? ⟨w.heap.size + 1, 2, none⟩ = some (.int .i64 (l.length : Int)) := by rw [blk_cell hfin]; rfl
      have m3 : wF.cell? ⟨w.heap.size + 1, 3, none⟩ = some (.int .i64 (nnI l : Int)) := by rw [blk_cell hfin]; rfl
      have m4 : wF.cell? ⟨w.heap.size + 1, 4, none⟩ = some (.int .i64 (sm / 4294967296)) := by rw [blk_cell hfin]; rfl
      have m5 : wF.cell? ⟨w.heap.size + 1, 5, none⟩ = some (.int .i64 (sm % 4294967296)) := by rw [blk_cell hfin]; rfl
      have m6 : wF.cell? ⟨w.heap.size + 1, 6, none⟩ = some (.int .i64 0) := by rw [blk_cell hfin]; rfl
      have m7 : wF.cell? ⟨w.heap.size + 1, 7, none⟩ = some (.slice none 0 0) := by rw [blk_cell hfin]; rfl
      have m8 : wF.cell? ⟨w.heap.size + 1, 8, none⟩ = some (.slice none 0 0) := by rw [blk_cell hfin]; rfl
      have m9 : wF.cell? ⟨w.heap.size + 1, 9, none⟩ = some (.slice none 0 0) := by rw [blk_cell hfin]; rfl
      have m10 : wF.cell? ⟨w.heap.size + 1, 10, none⟩ = some (.int .i64 0) := by rw [blk_cell hfin]; rfl
      have m11 : wF.cell? ⟨w.heap.size + 1, 11, none⟩ = some (.slice none 0 0) := by rw [blk_cell hfin]; rfl
      have m12 : wF.cell? ⟨w.heap.size + 1, 12, none⟩ = some (.slice none 0 0) := by rw [blk_cell hfin]; rfl
      have m13 : wF.cell? ⟨w.heap.size + 1, 13, none⟩ = some (.slice none 0 0) := by rw [blk_cell hfin]; rfl
      have m14 : wF.cell? ⟨w.heap.size + 1, 14, none⟩ = some (.int .i64 0) := by rw [blk_cell hfin]; rfl
      refine bodyPost_ret (v := .agg #[.int .i64 3, .int .i64 2, .int .i64 (l.length : Int), .int .i64 (nnI l : Int), .int .i64 (sm / 4294967296), .int .i64 (sm % 4294967296), .int .i64 0, .slice none 0 0, .slice none 0 0, .slice none 0 0, .int .i64 0, .slice none 0 0, .slice none 0 0, .slice none 0 0, .int .i64 0]) (by simp [results, Tryz.results62, go_sem, m0, m1, m2, m3, m4, m5, m6, m7, m8, m9, m10, m11, m12, m13, m14]) rfl ?_
      rw [← HSME.out]
      exact ⟨none, 0, none, 0, none, 0, [], rfl, vow_emp8 wF, by simp, gb_trans HGD.out hgf (.inr (.inr ⟨_, rfl, by omega⟩))⟩
set_option maxHeartbeats 4000000 in
set_option maxRecDepth 100000 in
theorem piece6_sum (l : List Int) (hI : ∀ k ∈ l, I64 k) (hl6 : l.length ≤ 400000) (w : World) (B : Nat) (nA : Option Addr) (nc : Nat) (sA : Option Addr) (sc : Nat) (lA : Option Addr) (lc : Nat) (ht : (Vl.mk 2 l [] []).tot ≤ 500000) (hB : B ≤ w.heap.size) (h : VB w B (.mk 2 l [] []) nA nc sA sc lA lc) : Calls Tryz.prog 62 #[.int .i64 6, .agg #[.int .i64 2, .slice nA l.length nc, .slice sA 0 sc, .slice lA 0 lc]] w (AccP 6 2 l.length (nnI l) (sumL l) (emp8) w) := by
  have hl : l.length ≤ 1100000 := by omega
  obtain ⟨wa, hwa⟩ : ∃ wa, wa = ((w.alloc (.cells #[.int .i64 2, .slice nA l.length nc, .slice sA 0 sc, .slice lA 0 lc] 26)).alloc (.cells #[.int .i64 0, .int .i64 0, .int .i64 0, .int .i64 0, .int .i64 0, .int .i64 0, .int .i64 0, .slice none 0 0, .slice none 0 0, .slice none 0 0, .int .i64 0, .slice none 0 0, .slice none 0 0, .slice none 0 0, .int .i64 0] 54)).alloc (.cells #[.int .i64 6, .int .i64 (-1), .int .i64 0, .int .i64 0, .int .i64 0, .int .i64 0, .int .i64 0, .slice none 0 0, .slice none 0 0, .slice none 0 0, .int .i64 0, .slice none 0 0, .slice none 0 0, .slice none 0 0, .int .i64 0] 54) := ⟨_, rfl⟩
  have bx : wa.heap[w.heap.size]? = some (.cells #[.int .i64 2, .slice nA l.length nc, .slice sA 0 sc, .slice lA 0 lc] 26 (0, 0)) := by rw [hwa]; exact (Below.heap_alloc _ _ _ (by rw [World.size_alloc, World.size_alloc]; omega)).trans ((Below.heap_alloc _ _ _ (by rw [World.size_alloc]; omega)).trans (heap_alloc_new w _))
  have bz : wa.heap[(w.heap.size + 1)]? = some (.cells #[.int .i64 0, .int .i64 0, .int .i64 0, .int .i64 0, .int .i64 0, .int .i64 0, .int .i64 0, .slice none 0 0, .slice none 0 0, .slice none 0 0, .int .i64 0, .slice none 0 0, .slice none 0 0, .slice none 0 0, .int .i64 0] 54 (0, 0)) := by rw [hwa]; refine (Below.heap_alloc _ _ _ (by rw [World.size_alloc, World.size_alloc]; omega)).trans ?_; have := heap_alloc_new (w.alloc (.cells #[.int .i64 2, .slice nA l.length nc, .slice sA 0 sc, .slice lA 0 lc] 26)) (.cells #[.int .i64 0, .int .i64 0, .int .i64 0, .int .i64 0, .int .i64 0, .int .i64 0, .int .i64 0, .slice none 0 0, .slice none 0 0, .slice none 0 0, .int .i64 0, .slice none 0 0, .slice none 0 0, .slice none 0 0, .int .i64 0] 54); rwa [World.size_alloc] at this
  have b5 : wa.heap[(w.heap.size + 1 + 1)]? = some (.cells #[.int .i64 6, .int .i64 (-1), .int .i64 0, .int .i64 0, .int .i64 0, .int .i64 0, .int .i64 0, .slice none 0 0, .slice none 0 0, .slice none 0 0, .int .i64 0, .slice none 0 0, .slice none 0 0, .slice none 0 0, .int .i64 0] 54 (0, 0)) := by rw [hwa]; have := heap_alloc_new ((w.alloc (.cells #[.int .i64 2, .slice nA l.length nc, .slice sA 0 sc, .slice lA 0 lc] 26)).alloc (.cells #[.int .i64 0, .int .i64 0, .int .i64 0, .int .i64 0, .int .i64 0, .int .i64 0, .int .i64 0, .slice none 0 0, .slice none 0 0, .slice none 0 0, .int .i64 0, .slice none 0 0, .slice none 0 0, .slice none 0 0, .int .i64 0] 54)) (.cells #[.int .i64 6, .int .i64 (-1), .int .i64 0, .int .i64 0, .int .i64 0, .int .i64 0, .int .i64 0, .slice none 0 0, .slice none 0 0, .slice none 0 0, .int .i64 0, .slice none 0 0, .slice none 0 0, .slice none 0 0, .int .i64 0] 54); rwa [World.size_alloc, World.size_alloc] at this
  have HBX := hide bx
  have HBZ := hide bz
  have HB5 := hide b5
  have HSZ := hide (show wa.heap.size = w.heap.size + 3 by rw [hwa]; simp)
  have HG := hide (show w.grownBy wa none by rw [hwa]; exact gb_alloc (gb_alloc (gb_alloc (gb_refl w none) _) _) _)
  have HWE := hide hwa
  have HCN : Hid (∀ w2, w.grownBy w2 none → Calls Tryz.prog 35 #[.agg #[.int .i64 2, .slice nA l.length nc, .slice sA 0 sc, .slice lA 0 lc]] w2 fun e w' => e = .returned (.int .i64 (l.length : Nat)) ∧ w2.grownBy w' none) := hide (fun w2 hg => count_d (Vl.mk 2 l [] []).depth (Vl.mk 2 l [] []) w2 B nA nc sA sc lA lc (Nat.le_refl _) (by omega) (Nat.le_trans hB hg.size) (h.gb hg hB))
  have HSM := hide (fun w2 (hg : w.grownBy w2 none) => some_int l w2 B nA nc sA sc lA lc (by omega) (Nat.le_trans hB hg.size) (h.gb hg hB))
  have HTK := hide (fun w2 => takes_int 6 (by decide) (by decide) w2)
  have HL := hide hl
  have HL6 := hide hl6
  have HSF := hide (fun w2 (hg : w.grownBy w2 none) => sumOf_any l w2 B nA nc (by omega) hI (Nat.le_trans hB hg.size) (vat_int (h.gb hg hB)))
  have hnn := nnI_le l
  have HNN := hide hnn
  obtain ⟨c0, c1, c2, c3⟩ : C4 wa w.heap.size 0 (.int .i64 2) (.slice nA l.length nc) (.slice sA 0 sc) (.slice lA 0 lc) := (by have h := blk_keep HBX.out (gb_refl wa none) (by simp); exact ⟨by rw [blk_cell h]; rfl, by rw [blk_cell h]; rfl, by rw [blk_cell h]; rfl, by rw [blk_cell h]; rfl⟩)
  clear bx bz b5 hwa h hB ht hl hI hl6 hnn
  go_enter Tryz.func62, Tryz.ntmps62
  go_upto_region 2 with fail
  rw [← HWE.out]
  go_upto_region 6 with (first
    | (go_at_call 38; refine (HTK.out _).mono ?_; rintro e w1 ⟨rfl, rfl⟩)
    | (go_at_call 35; refine (HCN.out _ HG.out).mono ?_; rintro e w2 ⟨rfl, hg2⟩; have HG2 := hide hg2; clear hg2 c0 c1 c2 c3))
  obtain ⟨c0, c1, c2, c3⟩ : C4 w2 w.heap.size 0 (.int .i64 2) (.slice nA l.length nc) (.slice sA 0 sc) (.slice lA 0 lc) := (by have h := blk_keep HBX.out HG2.out (by simp); exact ⟨by rw [blk_cell h]; rfl, by rw [blk_cell h]; rfl, by rw [blk_cell h]; rfl, by rw [blk_cell h]; rfl⟩)
  have hb2 := blk_keep HB5.out HG2.out (by simp)
  have a0 : w2.cell? ⟨(w.heap.size + 1 + 1), 0, none⟩ = some (.int .i64 6) := by rw [blk_cell hb2]; rfl
  have a1 : w2.cell? ⟨(w.heap.size + 1 + 1), 1, none⟩ = some (.int .i64 (-1)) := by rw [blk_cell hb2]; rfl
  have a2 : w2.cell? ⟨(w.heap.size + 1 + 1), 2, none⟩ = some (.int .i64 0) := by rw [blk_cell hb2]; rfl
  have a3 : w2.cell? ⟨(w.heap.size + 1 + 1), 3, none⟩ = some (.int .i64 0) := by rw [blk_cell hb2]; rfl
  have a4 : w2.cell? ⟨(w.heap.size + 1 + 1), 4, none⟩ = some (.int .i64 0) := by rw [blk_cell hb2]; rfl
  have a5 : w2.cell? ⟨(w.heap.size + 1 + 1), 5, none⟩ = some (.int .i64 0) := by rw [blk_cell hb2]; rfl
  have a6 : w2.cell? ⟨(w.heap.size + 1 + 1), 6, none⟩ = some (.int .i64 0) := by rw [blk_cell hb2]; rfl
  have a7 : w2.cell? ⟨(w.heap.size + 1 + 1), 7, none⟩ = some (.slice none 0 0) := by rw [blk_cell hb2]; rfl
  have a8 : w2.cell? ⟨(w.heap.size + 1 + 1), 8, none⟩ = some (.slice none 0 0) := by rw [blk_cell hb2]; rfl
  have a9 : w2.cell? ⟨(w.heap.size + 1 + 1), 9, none⟩ = some (.slice none 0 0) := by rw [blk_cell hb2]; rfl
  have a10 : w2.cell? ⟨(w.heap.size + 1 + 1), 10, none⟩ = some (.int .i64 0) := by rw [blk_cell hb2]; rfl
  have a11 : w2.cell? ⟨(w.heap.size + 1 + 1), 11, none⟩ = some (.slice none 0 0) := by rw [blk_cell hb2]; rfl
  have a12 : w2.cell? ⟨(w.heap.size + 1 + 1), 12, none⟩ = some (.slice none 0 0) := by rw [blk_cell hb2]; rfl
  have a13 : w2.cell? ⟨(w.heap.size + 1 + 1), 13, none⟩ = some (.slice none 0 0) := by rw [blk_cell hb2]; rfl
  have a14 : w2.cell? ⟨(w.heap.size + 1 + 1), 14, none⟩ = some (.int .i64 0) := by rw [blk_cell hb2]; rfl
  have z0 := blk_frozen hb2 0
  have z1 := blk_frozen hb2 1
  have z2 := blk_frozen hb2 2
  have z3 := blk_frozen hb2 3
  have z4 := blk_frozen hb2 4
  have z5 := blk_frozen hb2 5
  have z6 := blk_frozen hb2 6
  have z7 := blk_frozen hb2 7
  have z8 := blk_frozen hb2 8
  have z9 := blk_frozen hb2 9
  have z10 := blk_frozen hb2 10
  have z11 := blk_frozen hb2 11
  have z12 := blk_frozen hb2 12
  have z13 := blk_frozen hb2 13
  have z14 := blk_frozen hb2 14
  clear hb2
  go_cut [] (fun wc => (wc.heap[(w.heap.size + 1 + 1)]? = some (.cells #[.int .i64 6, .int .i64 2, .int .i64 (l.length : Int), .int .i64 (nnI l : Int), .int .i64 0, .int .i64 0, .int .i64 0, .slice none 0 0, .slice none 0 0, .slice none 0 0, .int .i64 0, .slice none 0 0, .slice none 0 0, .slice none 0 0, .int .i64 0] 54 (0, 0)) ∧ wc.heap[w.heap.size + 1]? = some (.cells #[.int .i64 0, .int .i64 0, .int .i64 0, .int .i64 0, .int .i64 0, .int .i64 0, .int .i64 0, .slice none 0 0, .slice none 0 0, .slice none 0 0, .int .i64 0, .slice none 0 0, .slice none 0 0, .slice none 0 0, .int .i64 0] 54 (0, 0)) ∧ wc.heap[w.heap.size]? = some (.cells #[.int .i64 2, .slice nA l.length nc, .slice sA 0 sc, .slice lA 0 lc] 26 (0, 0))) ∧ w.grownBy wc none ∧ w.heap.size + 3 ≤ wc.heap.size)
  case first =>
    go_region_law ((go_simp; go_at_call 93; refine (HSM.out w2.drew (gb_trans HG.out (gb_drew HG2.out) (.inl rfl))).mono ?_; rintro e w3 ⟨rfl, hg3⟩; have HG3 := hide (show w2.grownBy w3 none from ⟨hg3.os, hg3.tape, hg3.output, hg3.size, hg3.block⟩); clear hg3 c0 c1 c2 c3 a0 a1 a2 a3 a4 a5 a6 a7 a8 a9 a10 a11 a12 a13 a14 z0 z1 z2 z3 z4 z5 z6 z7 z8 z9 z10 z11 z12 z13 z14; have hb3 := blk_keep HB5.out (gb_trans HG2.out HG3.out (.inl rfl)) (by simp); have HB3 := hide hb3; obtain ⟨c0, c1, c2, c3⟩ : C4 w3 w.heap.size 0 (.int .i64 2) (.slice nA l.length nc) (.slice sA 0 sc) (.slice lA 0 lc) := (by have h := blk_keep HBX.out (gb_trans HG2.out HG3.out (.inl rfl)) (by simp); exact ⟨by rw [blk_cell h]; rfl, by rw [blk_cell h]; rfl, by rw [blk_cell h]; rfl, by rw [blk_cell h]; rfl⟩); have a0 : w3.cell? ⟨(w.heap.size + 1 + 1), 0, none⟩ = some (.int .i64 6) := (by { rw [blk_cell hb3]; rfl }); have a1 : w3.cell? ⟨(w.heap.size + 1 + 1), 1, none⟩ = some (.int .i64 (-1)) := (by { rw [blk_cell hb3]; rfl }); have a2 : w3.cell? ⟨(w.heap.size + 1 + 1), 2, none⟩ = some (.int .i64 0) := (by { rw [blk_cell hb3]; rfl }); have a3 : w3.cell? ⟨(w.heap.size + 1 + 1), 3, none⟩ = some (.int .i64 0) := (by { rw [blk_cell hb3]; rfl }); have a4 : w3.cell? ⟨(w.heap.size + 1 + 1), 4, none⟩ = some (.int .i64 0) := (by { rw [blk_cell hb3]; rfl }); have a5 : w3.cell? ⟨(w.heap.size + 1 + 1), 5, none⟩ = some (.int .i64 0) := (by { rw [blk_cell hb3]; rfl }); have a6 : w3.cell? ⟨(w.heap.size + 1 + 1), 6, none⟩ = some (.int .i64 0) := (by { rw [blk_cell hb3]; rfl }); have a7 : w3.cell? ⟨(w.heap.size + 1 + 1), 7, none⟩ = some (.slice none 0 0) := (by { rw [blk_cell hb3]; rfl }); have a8 : w3.cell? ⟨(w.heap.size + 1 + 1), 8, none⟩ = some (.slice none 0 0) := (by { rw [blk_cell hb3]; rfl }); have a9 : w3.cell? ⟨(w.heap.size + 1 + 1), 9, none⟩ = some (.slice none 0 0) := (by { rw [blk_cell hb3]; rfl }); have a10 : w3.cell? ⟨(w.heap.size + 1 + 1), 10, none⟩ = some (.int .i64 0) := (by { rw [blk_cell hb3]; rfl }); have a11 : w3.cell? ⟨(w.heap.size + 1 + 1), 11, none⟩ = some (.slice none 0 0) := (by { rw [blk_cell hb3]; rfl }); have a12 : w3.cell? ⟨(w.heap.size + 1 + 1), 12, none⟩ = some (.slice none 0 0) := (by { rw [blk_cell hb3]; rfl }); have a13 : w3.cell? ⟨(w.heap.size + 1 + 1), 13, none⟩ = some (.slice none 0 0) := (by { rw [blk_cell hb3]; rfl }); have a14 : w3.cell? ⟨(w.heap.size + 1 + 1), 14, none⟩ = some (.int .i64 0) := (by { rw [blk_cell hb3]; rfl }); have z0 := blk_frozen hb3 0; have z1 := blk_frozen hb3 1; have z2 := blk_frozen hb3 2; have z3 := blk_frozen hb3 3; have z4 := blk_frozen hb3 4; have z5 := blk_frozen hb3 5; have z6 := blk_frozen hb3 6; have z7 := blk_frozen hb3 7; have z8 := blk_frozen hb3 8; have z9 := blk_frozen hb3 9; have z10 := blk_frozen hb3 10; have z11 := blk_frozen hb3 11; have z12 := blk_frozen hb3 12; have z13 := blk_frozen hb3 13; have z14 := blk_frozen hb3 14; clear hb3))
    all_goals
      go_wp2_with fail
      go_meet
      case rel =>
        have hg23 := gb_trans HG2.out HG3.out (.inl rfl)
        refine ⟨⟨blk_set (blk_set (blk_set HB3.out 1 _) 2 _) 3 _, ?_, ?_⟩, ?_, ?_⟩
        · exact (Below.heap_setCell _ ⟨w.heap.size + 1 + 1, 3, none⟩ _ _ (by simp)).trans ((Below.heap_setCell _ ⟨w.heap.size + 1 + 1, 2, none⟩ _ _ (by simp)).trans ((Below.heap_setCell _ ⟨w.heap.size + 1 + 1, 1, none⟩ _ _ (by simp)).trans (blk_keep HBZ.out hg23 (by simp))))
        · exact (Below.heap_setCell _ ⟨w.heap.size + 1 + 1, 3, none⟩ _ _ (show w.heap.size ≠ (w.heap.size + 1 + 1) by omega)).trans ((Below.heap_setCell _ ⟨w.heap.size + 1 + 1, 2, none⟩ _ _ (show w.heap.size ≠ (w.heap.size + 1 + 1) by omega)).trans ((Below.heap_setCell _ ⟨w.heap.size + 1 + 1, 1, none⟩ _ _ (show w.heap.size ≠ (w.heap.size + 1 + 1) by omega)).trans (blk_keep HBX.out hg23 (by simp))))
        · exact gb_setCell (gb_setCell (gb_setCell (gb_trans HG.out hg23 (.inl rfl)) (.inr (show w.heap.size ≤ w.heap.size + 1 + 1 by omega)) _) (.inr (show w.heap.size ≤ w.heap.size + 1 + 1 by omega)) _) (.inr (show w.heap.size ≤ w.heap.size + 1 + 1 by omega)) _
        · have := HSZ.out
          have := hg23.size
          simp [World.setCell]
          omega
  case rest =>
    obtain ⟨⟨hb5, hbz, hbx⟩, hgc, hsz⟩ := hcut
    have HB5c := hide hb5
    have HBZc := hide hbz
    have HBXc := hide hbx
    have HGC := hide hgc
    have HSZc := hide hsz
    clear HB5 HBZ HBX HG2 HG HSZ HWE hgc hsz hbx hbz hb5 a0 a1 a2 a3 a4 a5 a6 a7 a8 a9 a10 a11 a12 a13 a14 z0 z1 z2 z3 z4 z5 z6 z7 z8 z9 z10 z11 z12 z13 z14 c0 c1 c2 c3
    obtain ⟨sm, hsm⟩ : ∃ sm, sm = sumL l := ⟨_, rfl⟩
    have hsf : Calls Tryz.prog 96 #[.slice nA l.length nc] wc fun e w' => e = .returned (.agg #[.int .i64 (sm / 4294967296), .int .i64 (sm % 4294967296)]) ∧ wc.grownBy w' none := by rw [hsm]; exact HSF.out wc HGC.out
    have HSFc := hide hsf
    have HSME := hide hsm
    obtain ⟨c0, c1, c2, c3⟩ : C4 wc w.heap.size 0 (.int .i64 2) (.slice nA l.length nc) (.slice sA 0 sc) (.slice lA 0 lc) := ⟨by rw [blk_cell HBXc.out]; rfl, by rw [blk_cell HBXc.out]; rfl, by rw [blk_cell HBXc.out]; rfl, by rw [blk_cell HBXc.out]; rfl⟩
    clear hsf hsm
    go_upto_region 19 with (go_at_call 96; refine HSFc.out.mono ?_; rintro e w8 ⟨rfl, hg8⟩; have HG8 := hide hg8; clear hg8 c0 c1 c2 c3)
    obtain ⟨w9, hw9⟩ : ∃ w9, w9 = w8.alloc (.cells #[.int .i64 (sm / 4294967296), .int .i64 (sm % 4294967296)] 65) := ⟨_, rfl⟩
    rw [← hw9]
    have ht9 : w9.heap[w8.heap.size]? = some (.cells #[.int .i64 (sm / 4294967296), .int .i64 (sm % 4294967296)] 65 (0, 0)) := by rw [hw9]; exact heap_alloc_new w8 _
    have HG9 := hide (show wc.grownBy w9 none by rw [hw9]; exact gb_trans HG8.out (gb_alloc (gb_refl w8 none) _) (.inl rfl))
    clear hw9
    have s0 : w9.cell? ⟨w8.heap.size, 0, none⟩ = some (.int .i64 (sm / 4294967296)) := by rw [blk_cell ht9]; rfl
    have s1 : w9.cell? ⟨w8.heap.size, 1, none⟩ = some (.int .i64 (sm % 4294967296)) := by rw [blk_cell ht9]; rfl
    have hb59 := blk_keep HB5c.out HG9.out (by simp)
    have HB59 := hide hb59
    have a0 : w9.cell? ⟨(w.heap.size + 1 + 1), 0, none⟩ = some (.int .i64 6) := by rw [blk_cell hb59]; rfl
    have a1 : w9.cell? ⟨(w.heap.size + 1 + 1), 1, none⟩ = some (.int .i64 2) := by rw [blk_cell hb59]; rfl
    have a2 : w9.cell? ⟨(w.heap.size + 1 + 1), 2, none⟩ = some (.int .i64 (l.length : Int)) := by rw [blk_cell hb59]; rfl
    have a3 : w9.cell? ⟨(w.heap.size + 1 + 1), 3, none⟩ = some (.int .i64 (nnI l : Int)) := by rw [blk_cell hb59]; rfl
    have a4 : w9.cell? ⟨(w.heap.size + 1 + 1), 4, none⟩ = some (.int .i64 0) := by rw [blk_cell hb59]; rfl
    have a5 : w9.cell? ⟨(w.heap.size + 1 + 1), 5, none⟩ = some (.int .i64 0) := by rw [blk_cell hb59]; rfl
    have a6 : w9.cell? ⟨(w.heap.size + 1 + 1), 6, none⟩ = some (.int .i64 0) := by rw [blk_cell hb59]; rfl
    have a7 : w9.cell? ⟨(w.heap.size + 1 + 1), 7, none⟩ = some (.slice none 0 0) := by rw [blk_cell hb59]; rfl
    have a8 : w9.cell? ⟨(w.heap.size + 1 + 1), 8, none⟩ = some (.slice none 0 0) := by rw [blk_cell hb59]; rfl
    have a9 : w9.cell? ⟨(w.heap.size + 1 + 1), 9, none⟩ = some (.slice none 0 0) := by rw [blk_cell hb59]; rfl
    have a10 : w9.cell? ⟨(w.heap.size + 1 + 1), 10, none⟩ = some (.int .i64 0) := by rw [blk_cell hb59]; rfl
    have a11 : w9.cell? ⟨(w.heap.size + 1 + 1), 11, none⟩ = some (.slice none 0 0) := by rw [blk_cell hb59]; rfl
    have a12 : w9.cell? ⟨(w.heap.size + 1 + 1), 12, none⟩ = some (.slice none 0 0) := by rw [blk_cell hb59]; rfl
    have a13 : w9.cell? ⟨(w.heap.size + 1 + 1), 13, none⟩ = some (.slice none 0 0) := by rw [blk_cell hb59]; rfl
    have a14 : w9.cell? ⟨(w.heap.size + 1 + 1), 14, none⟩ = some (.int .i64 0) := by rw [blk_cell hb59]; rfl
    have z0 := blk_frozen hb59 0
    have z1 := blk_frozen hb59 1
    have z2 := blk_frozen hb59 2
    have z3 := blk_frozen hb59 3
    have z4 := blk_frozen hb59 4
    have z5 := blk_frozen hb59 5
    have z6 := blk_frozen hb59 6
    have z7 := blk_frozen hb59 7
    have z8 := blk_frozen hb59 8
    have z9 := blk_frozen hb59 9
    have z10 := blk_frozen hb59 10
    have z11 := blk_frozen hb59 11
    have z12 := blk_frozen hb59 12
    have z13 := blk_frozen hb59 13
    have z14 := blk_frozen hb59 14
    clear ht9 hb59
    go_region_law (fail)
    all_goals
      go_upto_region 20 with fail
      obtain ⟨wd, hwd⟩ : ∃ wd, wd = ((w9.setCell ⟨w.heap.size + 1 + 1, 4, none⟩ (.int .i64 (sm / 4294967296))).setCell ⟨w.heap.size + 1 + 1, 5, none⟩ (.int .i64 (sm % 4294967296))).drew := ⟨_, rfl⟩
      rw [← hwd]
      have hd5 : wd.heap[(w.heap.size + 1 + 1)]? = some (.cells #[.int .i64 6, .int .i64 2, .int .i64 (l.length : Int), .int .i64 (nnI l : Int), .int .i64 (sm / 4294967296), .int .i64 (sm % 4294967296), .int .i64 0, .slice none 0 0, .slice none 0 0, .slice none 0 0, .int .i64 0, .slice none 0 0, .slice none 0 0, .slice none 0 0, .int .i64 0] 54 (0, 0)) := by rw [hwd]; exact blk_set (blk_set HB59.out 4 _) 5 _
      have hdz : wd.heap[(w.heap.size + 1)]? = some (.cells #[.int .i64 0, .int .i64 0, .int .i64 0, .int .i64 0, .int .i64 0, .int .i64 0, .int .i64 0, .slice none 0 0, .slice none 0 0, .slice none 0 0, .int .i64 0, .slice none 0 0, .slice none 0 0, .slice none 0 0, .int .i64 0] 54 (0, 0)) := by rw [hwd]; exact (Below.heap_setCell _ ⟨w.heap.size + 1 + 1, 5, none⟩ _ _ (by simp)).trans ((Below.heap_setCell _ ⟨w.heap.size + 1 + 1, 4, none⟩ _ _ (by simp)).trans (blk_keep HBZc.out HG9.out (by simp)))
      have HGD := hide (show w.grownBy wd none by rw [hwd]; exact gb_drew (gb_setCell (gb_setCell (gb_trans HGC.out HG9.out (.inl rfl)) (.inr (show w.heap.size ≤ w.heap.size + 1 + 1 by omega)) _) (.inr (show w.heap.size ≤ w.heap.size + 1 + 1 by omega)) _))
      have HBZ9 := hide hdz
      clear hwd s0 s1 a0 a1 a2 a3 a4 a5 a6 a7 a8 a9 a10 a11 a12 a13 a14 z0 z1 z2 z3 z4 z5 z6 z7 z8 z9 z10 z11 z12 z13 z14 HB59 HG9 HB5c HBZc HBXc HG8
      clear w9
      obtain ⟨w9, rfl⟩ : ∃ w9, w9 = wd := ⟨_, rfl⟩
      have a0 : w9.cell? ⟨(w.heap.size + 1 + 1), 0, none⟩ = some (.int .i64 6) := by rw [blk_cell hd5]; rfl
      have a1 : w9.cell? ⟨(w.heap.size + 1 + 1), 1, none⟩ = some (.int .i64 2) := by rw [blk_cell hd5]; rfl
      have a2 : w9.cell? ⟨(w.heap.size + 1 + 1), 2, none⟩ = some (.int .i64 (l.length : Int)) := by rw [blk_cell hd5]; rfl
      have a3 : w9.cell? ⟨(w.heap.size + 1 + 1), 3, none⟩ = some (.int .i64 (nnI l : Int)) := by rw [blk_cell hd5]; rfl
      have a4 : w9.cell? ⟨(w.heap.size + 1 + 1), 4, none⟩ = some (.int .i64 (sm / 4294967296)) := by rw [blk_cell hd5]; rfl
      have a5 : w9.cell? ⟨(w.heap.size + 1 + 1), 5, none⟩ = some (.int .i64 (sm % 4294967296)) := by rw [blk_cell hd5]; rfl
      have a6 : w9.cell? ⟨(w.heap.size + 1 + 1), 6, none⟩ = some (.int .i64 0) := by rw [blk_cell hd5]; rfl
      have a7 : w9.cell? ⟨(w.heap.size + 1 + 1), 7, none⟩ = some (.slice none 0 0) := by rw [blk_cell hd5]; rfl
      have a8 : w9.cell? ⟨(w.heap.size + 1 + 1), 8, none⟩ = some (.slice none 0 0) := by rw [blk_cell hd5]; rfl
      have a9 : w9.cell? ⟨(w.heap.size + 1 + 1), 9, none⟩ = some (.slice none 0 0) := by rw [blk_cell hd5]; rfl
      have a10 : w9.cell? ⟨(w.heap.size + 1 + 1), 10, none⟩ = some (.int .i64 0) := by rw [blk_cell hd5]; rfl
      have a11 : w9.cell? ⟨(w.heap.size + 1 + 1), 11, none⟩ = some (.slice none 0 0) := by rw [blk_cell hd5]; rfl
      have a12 : w9.cell? ⟨(w.heap.size + 1 + 1), 12, none⟩ = some (.slice none 0 0) := by rw [blk_cell hd5]; rfl
      have a13 : w9.cell? ⟨(w.heap.size + 1 + 1), 13, none⟩ = some (.slice none 0 0) := by rw [blk_cell hd5]; rfl
      have a14 : w9.cell? ⟨(w.heap.size + 1 + 1), 14, none⟩ = some (.int .i64 0) := by rw [blk_cell hd5]; rfl
      have y0 : w9.cell? ⟨(w.heap.size + 1), 0, none⟩ = some (.int .i64 0) := by rw [blk_cell hdz]; rfl
      have y1 : w9.cell? ⟨(w.heap.size + 1), 1, none⟩ = some (.int .i64 0) := by rw [blk_cell hdz]; rfl
      have y2 : w9.cell? ⟨(w.heap.size + 1), 2, none⟩ = some (.int .i64 0) := by rw [blk_cell hdz]; rfl
      have y3 : w9.cell? ⟨(w.heap.size + 1), 3, none⟩ = some (.int .i64 0) := by rw [blk_cell hdz]; rfl
      have y4 : w9.cell? ⟨(w.heap.size + 1), 4, none⟩ = some (.int .i64 0) := by rw [blk_cell hdz]; rfl
      have y5 : w9.cell? ⟨(w.heap.size + 1), 5, none⟩ = some (.int .i64 0) := by rw [blk_cell hdz]; rfl
      have y6 : w9.cell? ⟨(w.heap.size + 1), 6, none⟩ = some (.int .i64 0) := by rw [blk_cell hdz]; rfl
      have y7 : w9.cell? ⟨(w.heap.size + 1), 7, none⟩ = some (.slice none 0 0) := by rw [blk_cell hdz]; rfl
      have y8 : w9.cell? ⟨(w.heap.size + 1), 8, none⟩ = some (.slice none 0 0) := by rw [blk_cell hdz]; rfl
      have y9 : w9.cell? ⟨(w.heap.size + 1), 9, none⟩ = some (.slice none 0 0) := by rw [blk_cell hdz]; rfl
      have y10 : w9.cell? ⟨(w.heap.size + 1), 10, none⟩ = some (.int .i64 0) := by rw [blk_cell hdz]; rfl
      have y11 : w9.cell? ⟨(w.heap.size + 1), 11, none⟩ = some (.slice none 0 0) := by rw [blk_cell hdz]; rfl
      have y12 : w9.cell? ⟨(w.heap.size + 1), 12, none⟩ = some (.slice none 0 0) := by rw [blk_cell hdz]; rfl
      have y13 : w9.cell? ⟨(w.heap.size + 1), 13, none⟩ = some (.slice none 0 0) := by rw [blk_cell hdz]; rfl
      have y14 : w9.cell? ⟨(w.heap.size + 1), 14, none⟩ = some (.int .i64 0) := by rw [blk_cell hdz]; rfl
      have x0 := blk_frozen hdz 0
      have x1 := blk_frozen hdz 1
      have x2 := blk_frozen hdz 2
      have x3 := blk_frozen hdz 3
      have x4 := blk_frozen hdz 4
      have x5 := blk_frozen hdz 5
      have x6 := blk_frozen hdz 6
      have x7 := blk_frozen hdz 7
      have x8 := blk_frozen hdz 8
      have x9 := blk_frozen hdz 9
      have x10 := blk_frozen hdz 10
      have x11 := blk_frozen hdz 11
      have x12 := blk_frozen hdz 12
      have x13 := blk_frozen hdz 13
      have x14 := blk_frozen hdz 14
      clear hd5 hdz
      go_wp2_with fail
      obtain ⟨wF, hwF⟩ : ∃ wF, wF = (((((((((((((((w9.setCell ⟨w.heap.size + 1, 0, none⟩ (.int .i64 6)).setCell ⟨w.heap.size + 1, 1, none⟩ (.int .i64 2)).setCell ⟨w.heap.size + 1, 2, none⟩ (.int .i64 (l.length : Int))).setCell ⟨w.heap.size + 1, 3, none⟩ (.int .i64 (nnI l : Int))).setCell ⟨w.heap.size + 1, 4, none⟩ (.int .i64 (sm / 4294967296))).setCell ⟨w.heap.size + 1, 5, none⟩ (.int .i64 (sm % 4294967296))).setCell ⟨w.heap.size + 1, 6, none⟩ (.int .i64 0)).setCell ⟨w.heap.size + 1, 7, none⟩ (.slice none 0 0)).setCell ⟨w.heap.size + 1, 8, none⟩ (.slice none 0 0)).setCell ⟨w.heap.size + 1, 9, none⟩ (.slice none 0 0)).setCell ⟨w.heap.size + 1, 10, none⟩ (.int .i64 0)).setCell ⟨w.heap.size + 1, 11, none⟩ (.slice none 0 0)).setCell ⟨w.heap.size + 1, 12, none⟩ (.slice none 0 0)).setCell ⟨w.heap.size + 1, 13, none⟩ (.slice none 0 0)).setCell ⟨w.heap.size + 1, 14, none⟩ (.int .i64 0)) := ⟨_, rfl⟩
      rw [← hwF]
      have hfin : wF.heap[(w.heap.size + 1)]? = some (.cells #[.int .i64 6, .int .i64 2, .int .i64 (l.length : Int), .int .i64 (nnI l : Int), .int .i64 (sm / 4294967296), .int .i64 (sm % 4294967296), .int .i64 0, .slice none 0 0, .slice none 0 0, .slice none 0 0, .int .i64 0, .slice none 0 0, .slice none 0 0, .slice none 0 0, .int .i64 0] 54 (0, 0)) := by
        rw [hwF]
        have h := (blk_set (blk_set (blk_set (blk_set (blk_set (blk_set (blk_set (blk_set (blk_set (blk_set (blk_set (blk_set (blk_set (blk_set (blk_set HBZ9.out 0 (.int .i64 6)) 1 (.int .i64 2)) 2 (.int .i64 (l.length : Int))) 3 (.int .i64 (nnI l : Int))) 4 (.int .i64 (sm / 4294967296))) 5 (.int .i64 (sm % 4294967296))) 6 (.int .i64 0)) 7 (.slice none 0 0)) 8 (.slice none 0 0)) 9 (.slice none 0 0)) 10 (.int .i64 0)) 11 (.slice none 0 0)) 12 (.slice none 0 0)) 13 (.slice none 0 0)) 14 (.int .i64 0))
        simp only [List.setIfInBounds_toArray, List.set_cons_succ, List.set_cons_zero] at h
        exact h
      have hgf : w9.grownBy wF (some (w.heap.size + 1)) := by rw [hwF]; exact gb_setCell (gb_setCell (gb_setCell (gb_setCell (gb_setCell (gb_setCell (gb_setCell (gb_setCell (gb_setCell (gb_setCell (gb_setCell (gb_setCell (gb_setCell (gb_setCell (gb_setCell (gb_refl w9 (some (w.heap.size + 1))) (.inl rfl) _) (.inl rfl) _) (.inl rfl) _) (.inl rfl) _) (.inl rfl) _) (.inl rfl) _) (.inl rfl) _) (.inl rfl) _) (.inl rfl) _) (.inl rfl) _) (.inl rfl) _) (.inl rfl) _) (.inl rfl) _) (.inl rfl) _) (.inl rfl) _
      clear hwF
      have m0 : wF.cell? ⟨w.heap.size + 1, 0, none⟩ = some (.int .i64 6) := by rw [blk_cell hfin]; rfl
      have m1 : wF.cell? ⟨w.heap.size + 1, 1, none⟩ = some (.int .i64 2) := by rw [blk_cell hfin]; rfl
      have m2 : wF.cell? ⟨w.heap.size + 1, 2, none⟩ = some (.int .i64 (l.length : Int)) := by rw [blk_cell hfin]; rfl
      have m3 : wF.cell? ⟨w.heap.size + 1, 3, none⟩ = some (.int .i64 (nnI l : Int)) := by rw [blk_cell hfin]; rfl
      have m4 : wF.cell? ⟨w.heap.size + 1, 4, none⟩ = some (.int .i64 (sm / 4294967296)) := by rw [blk_cell hfin]; rfl
      have m5 : wF.cell? ⟨w.heap.size + 1, 5, none⟩ = some (.int .i64 (sm % 4294967296)) := by rw [blk_cell hfin]; rfl
      have m6 : wF.cell? ⟨w.heap.size + 1, 6, none⟩ = some (.int .i64 0) := by rw [blk_cell hfin]; rfl
      have m7 : wF.cell? ⟨w.heap.size + 1, 7, none⟩ = some (.slice none 0 0) := by rw [blk_cell hfin]; rfl
      have m8 : wF.cell? ⟨w.heap.size + 1, 8, none⟩ = some (.slice none 0 0) := by rw [blk_cell hfin]; rfl
      have m9 : wF.cell? ⟨w.heap.size + 1, 9, none⟩ = some (.slice none 0 0) := by rw [blk_cell hfin]; rfl
      have m10 : wF.cell? ⟨w.heap.size + 1, 10, none⟩ = some (.int .i64 0) := by rw [blk_cell hfin]; rfl
      have m11 : wF.cell? ⟨w.heap.size + 1, 11, none⟩ = some (.slice none 0 0) := by rw [blk_cell hfin]; rfl
      have m12 : wF.cell? ⟨w.heap.size + 1, 12, none⟩ = some (.slice none 0 0) := by rw [blk_cell hfin]; rfl
      have m13 : wF.cell? ⟨w.heap.size + 1, 13, none⟩ = some (.slice none 0 0) := by rw [blk_cell hfin]; rfl
      have m14 : wF.cell? ⟨w.heap.size + 1, 14, none⟩ = some (.int .i64 0) := by rw [blk_cell hfin]; rfl
      refine bodyPost_ret (v := .agg #[.int .i64 6, .int .i64 2, .int .i64 (l.length : Int), .int .i64 (nnI l : Int), .int .i64 (sm / 4294967296), .int .i64 (sm % 4294967296), .int .i64 0, .slice none 0 0, .slice none 0 0, .slice none 0 0, .int .i64 0, .slice none 0 0, .slice none 0 0, .slice none 0 0, .int .i64 0]) (by simp [results, Tryz.results62, go_sem, m0, m1, m2, m3, m4, m5, m6, m7, m8, m9, m10, m11, m12, m13, m14]) rfl ?_
      rw [← HSME.out]
      exact ⟨none, 0, none, 0, none, 0, [], rfl, vow_emp8 wF, by simp, gb_trans HGD.out hgf (.inr (.inr ⟨_, rfl, by omega⟩))⟩
end Go.Proofs.YtgepejnooghjbaaGreat

namespace Go.Proofs.YtgepejnooghjbaaGreat
open Go.RowKit
attribute [local go_sem ↓] Go.wp_at_zero Go.wp_at_succ

set_option maxHeartbeats 4000000 in
set_option maxRecDepth 100000 in
theorem surp3_some (n s hi lo : Int) (f0 f1 f2 f3 : Value) (hs : 0 < s) (w : World) : Calls Tryz.prog 92 #[.agg #[.int .i64 3, .int .i64 2, .int .i64 n, .int .i64 s, .int .i64 hi, .int .i64 lo, f0, f1, f2, f3, .int .i64 0, .slice none 0 0, .slice none 0 0, .slice none 0 0, .int .i64 0], .agg #[.int .i64 3, .int .i64 (-1), .int .i64 0, .int .i64 0, .int .i64 0, .int .i64 0, .int .i64 0, .slice none 0 0, .slice none 0 0, .slice none 0 0, .int .i64 0, .slice none 0 0, .slice none 0 0, .slice none 0 0, .int .i64 0]] w fun e w' => e = .returned (.bool false) ∧ w.grownBy w' none := by
  obtain ⟨wa, hwa⟩ : ∃ wa, wa = (w.alloc (.cells #[.int .i64 3, .int .i64 2, .int .i64 n, .int .i64 s, .int .i64 hi, .int .i64 lo, f0, f1, f2, f3, .int .i64 0, .slice none 0 0, .slice none 0 0, .slice none 0 0, .int .i64 0] 54)).alloc (.cells #[.int .i64 3, .int .i64 (-1), .int .i64 0, .int .i64 0, .int .i64 0, .int .i64 0, .int .i64 0, .slice none 0 0, .slice none 0 0, .slice none 0 0, .int .i64 0, .slice none 0 0, .slice none 0 0, .slice none 0 0, .int .i64 0] 54) := ⟨_, rfl⟩
  have hb : wa.heap[w.heap.size]? = some (.cells #[.int .i64 3, .int .i64 2, .int .i64 n, .int .i64 s, .int .i64 hi, .int .i64 lo, f0, f1, f2, f3, .int .i64 0, .slice none 0 0, .slice none 0 0, .slice none 0 0, .int .i64 0] 54 (0, 0)) := by rw [hwa]; exact (Below.heap_alloc _ _ _ (by rw [World.size_alloc]; omega)).trans (heap_alloc_new w _)
  have ha : wa.heap[w.heap.size + 1]? = some (.cells #[.int .i64 3, .int .i64 (-1), .int .i64 0, .int .i64 0, .int .i64 0, .int .i64 0, .int .i64 0, .slice none 0 0, .slice none 0 0, .slice none 0 0, .int .i64 0, .slice none 0 0, .slice none 0 0, .slice none 0 0, .int .i64 0] 54 (0, 0)) := by rw [hwa]; have := heap_alloc_new (w.alloc (.cells #[.int .i64 3, .int .i64 2, .int .i64 n, .int .i64 s, .int .i64 hi, .int .i64 lo, f0, f1, f2, f3, .int .i64 0, .slice none 0 0, .slice none 0 0, .slice none 0 0, .int .i64 0] 54)) (.cells #[.int .i64 3, .int .i64 (-1), .int .i64 0, .int .i64 0, .int .i64 0, .int .i64 0, .int .i64 0, .slice none 0 0, .slice none 0 0, .slice none 0 0, .int .i64 0, .slice none 0 0, .slice none 0 0, .slice none 0 0, .int .i64 0] 54); rwa [World.size_alloc] at this
  have HG := hide (show w.grownBy wa none by rw [hwa]; exact gb_alloc (gb_alloc (gb_refl w none) _) _)
  have HWE := hide hwa
  have b3 : wa.cell? ⟨w.heap.size, 3, none⟩ = some (.int .i64 s) := by rw [blk_cell hb]; rfl
  have a0 : wa.cell? ⟨w.heap.size + 1, 0, none⟩ = some (.int .i64 3) := by rw [blk_cell ha]; rfl
  have a3 : wa.cell? ⟨w.heap.size + 1, 3, none⟩ = some (.int .i64 0) := by rw [blk_cell ha]; rfl
  have e0 : (s == 0) = false := int_beq_f (by omega)
  clear hwa ha hb hs
  go_enter Tryz.func92, Tryz.ntmps92
  go_upto_region 1 with fail
  rw [← HWE.out]
  go_wp2_with fail
  exact bodyPost_ret (v := .bool false) (by simp [results, Tryz.results92, go_sem]) rfl ⟨rfl, HG.out⟩
set_option maxHeartbeats 4000000 in
set_option maxRecDepth 100000 in
theorem surp3_none (n s hi lo : Int) (f0 f1 f2 f3 : Value) (hs : s = 0) (w : World) : Calls Tryz.prog 92 #[.agg #[.int .i64 3, .int .i64 2, .int .i64 n, .int .i64 s, .int .i64 hi, .int .i64 lo, f0, f1, f2, f3, .int .i64 0, .slice none 0 0, .slice none 0 0, .slice none 0 0, .int .i64 0], .agg #[.int .i64 3, .int .i64 (-1), .int .i64 0, .int .i64 0, .int .i64 0, .int .i64 0, .int .i64 0, .slice none 0 0, .slice none 0 0, .slice none 0 0, .int .i64 0, .slice none 0 0, .slice none 0 0, .slice none 0 0, .int .i64 0]] w fun e w' => e = .returned (.bool false) ∧ w.grownBy w' none := by
  obtain ⟨wa, hwa⟩ : ∃ wa, wa = (w.alloc (.cells #[.int .i64 3, .int .i64 2, .int .i64 n, .int .i64 s, .int .i64 hi, .int .i64 lo, f0, f1, f2, f3, .int .i64 0, .slice none 0 0, .slice none 0 0, .slice none 0 0, .int .i64 0] 54)).alloc (.cells #[.int .i64 3, .int .i64 (-1), .int .i64 0, .int .i64 0, .int .i64 0, .int .i64 0, .int .i64 0, .slice none 0 0, .slice none 0 0, .slice none 0 0, .int .i64 0, .slice none 0 0, .slice none 0 0, .slice none 0 0, .int .i64 0] 54) := ⟨_, rfl⟩
  have hb : wa.heap[w.heap.size]? = some (.cells #[.int .i64 3, .int .i64 2, .int .i64 n, .int .i64 s, .int .i64 hi, .int .i64 lo, f0, f1, f2, f3, .int .i64 0, .slice none 0 0, .slice none 0 0, .slice none 0 0, .int .i64 0] 54 (0, 0)) := by rw [hwa]; exact (Below.heap_alloc _ _ _ (by rw [World.size_alloc]; omega)).trans (heap_alloc_new w _)
  have ha : wa.heap[w.heap.size + 1]? = some (.cells #[.int .i64 3, .int .i64 (-1), .int .i64 0, .int .i64 0, .int .i64 0, .int .i64 0, .int .i64 0, .slice none 0 0, .slice none 0 0, .slice none 0 0, .int .i64 0, .slice none 0 0, .slice none 0 0, .slice none 0 0, .int .i64 0] 54 (0, 0)) := by rw [hwa]; have := heap_alloc_new (w.alloc (.cells #[.int .i64 3, .int .i64 2, .int .i64 n, .int .i64 s, .int .i64 hi, .int .i64 lo, f0, f1, f2, f3, .int .i64 0, .slice none 0 0, .slice none 0 0, .slice none 0 0, .int .i64 0] 54)) (.cells #[.int .i64 3, .int .i64 (-1), .int .i64 0, .int .i64 0, .int .i64 0, .int .i64 0, .int .i64 0, .slice none 0 0, .slice none 0 0, .slice none 0 0, .int .i64 0, .slice none 0 0, .slice none 0 0, .slice none 0 0, .int .i64 0] 54); rwa [World.size_alloc] at this
  have HG := hide (show w.grownBy wa none by rw [hwa]; exact gb_alloc (gb_alloc (gb_refl w none) _) _)
  have HWE := hide hwa
  have b3 : wa.cell? ⟨w.heap.size, 3, none⟩ = some (.int .i64 s) := by rw [blk_cell hb]; rfl
  have a0 : wa.cell? ⟨w.heap.size + 1, 0, none⟩ = some (.int .i64 3) := by rw [blk_cell ha]; rfl
  have a3 : wa.cell? ⟨w.heap.size + 1, 3, none⟩ = some (.int .i64 0) := by rw [blk_cell ha]; rfl
  have e0 : (s == 0) = true := int_beq_t hs
  clear hwa ha hb hs
  go_enter Tryz.func92, Tryz.ntmps92
  go_upto_region 1 with fail
  rw [← HWE.out]
  go_wp2_with fail
  exact bodyPost_ret (v := .bool false) (by simp [results, Tryz.results92, go_sem]) rfl ⟨rfl, HG.out⟩
set_option maxHeartbeats 4000000 in
set_option maxRecDepth 100000 in
theorem surp4_some (n s hi lo : Int) (f0 f1 f2 f3 : Value) (hs : 0 < s) (w : World) : Calls Tryz.prog 92 #[.agg #[.int .i64 4, .int .i64 2, .int .i64 n, .int .i64 s, .int .i64 hi, .int .i64 lo, f0, f1, f2, f3, .int .i64 0, .slice none 0 0, .slice none 0 0, .slice none 0 0, .int .i64 0], .agg #[.int .i64 4, .int .i64 (-1), .int .i64 0, .int .i64 0, .int .i64 0, .int .i64 0, .int .i64 0, .slice none 0 0, .slice none 0 0, .slice none 0 0, .int .i64 0, .slice none 0 0, .slice none 0 0, .slice none 0 0, .int .i64 0]] w fun e w' => e = .returned (.bool true) ∧ w.grownBy w' none := by
  obtain ⟨wa, hwa⟩ : ∃ wa, wa = (w.alloc (.cells #[.int .i64 4, .int .i64 2, .int .i64 n, .int .i64 s, .int .i64 hi, .int .i64 lo, f0, f1, f2, f3, .int .i64 0, .slice none 0 0, .slice none 0 0, .slice none 0 0, .int .i64 0] 54)).alloc (.cells #[.int .i64 4, .int .i64 (-1), .int .i64 0, .int .i64 0, .int .i64 0, .int .i64 0, .int .i64 0, .slice none 0 0, .slice none 0 0, .slice none 0 0, .int .i64 0, .slice none 0 0, .slice none 0 0, .slice none 0 0, .int .i64 0] 54) := ⟨_, rfl⟩
  have hb : wa.heap[w.heap.size]? = some (.cells #[.int .i64 4, .int .i64 2, .int .i64 n, .int .i64 s, .int .i64 hi, .int .i64 lo, f0, f1, f2, f3, .int .i64 0, .slice none 0 0, .slice none 0 0, .slice none 0 0, .int .i64 0] 54 (0, 0)) := by rw [hwa]; exact (Below.heap_alloc _ _ _ (by rw [World.size_alloc]; omega)).trans (heap_alloc_new w _)
  have ha : wa.heap[w.heap.size + 1]? = some (.cells #[.int .i64 4, .int .i64 (-1), .int .i64 0, .int .i64 0, .int .i64 0, .int .i64 0, .int .i64 0, .slice none 0 0, .slice none 0 0, .slice none 0 0, .int .i64 0, .slice none 0 0, .slice none 0 0, .slice none 0 0, .int .i64 0] 54 (0, 0)) := by rw [hwa]; have := heap_alloc_new (w.alloc (.cells #[.int .i64 4, .int .i64 2, .int .i64 n, .int .i64 s, .int .i64 hi, .int .i64 lo, f0, f1, f2, f3, .int .i64 0, .slice none 0 0, .slice none 0 0, .slice none 0 0, .int .i64 0] 54)) (.cells #[.int .i64 4, .int .i64 (-1), .int .i64 0, .int .i64 0, .int .i64 0, .int .i64 0, .int .i64 0, .slice none 0 0, .slice none 0 0, .slice none 0 0, .int .i64 0, .slice none 0 0, .slice none 0 0, .slice none 0 0, .int .i64 0] 54); rwa [World.size_alloc] at this
  have HG := hide (show w.grownBy wa none by rw [hwa]; exact gb_alloc (gb_alloc (gb_refl w none) _) _)
  have HWE := hide hwa
  have b3 : wa.cell? ⟨w.heap.size, 3, none⟩ = some (.int .i64 s) := by rw [blk_cell hb]; rfl
  have a0 : wa.cell? ⟨w.heap.size + 1, 0, none⟩ = some (.int .i64 4) := by rw [blk_cell ha]; rfl
  have a3 : wa.cell? ⟨w.heap.size + 1, 3, none⟩ = some (.int .i64 0) := by rw [blk_cell ha]; rfl
  have e0 : (s == 0) = false := int_beq_f (by omega)
  clear hwa ha hb hs
  go_enter Tryz.func92, Tryz.ntmps92
  go_upto_region 1 with fail
  rw [← HWE.out]
  go_wp2_with fail
  exact bodyPost_ret (v := .bool true) (by simp [results, Tryz.results92, go_sem]) rfl ⟨rfl, HG.out⟩
set_option maxHeartbeats 4000000 in
set_option maxRecDepth 100000 in
theorem surp4_none (n s hi lo : Int) (f0 f1 f2 f3 : Value) (hs : s = 0) (w : World) : Calls Tryz.prog 92 #[.agg #[.int .i64 4, .int .i64 2, .int .i64 n, .int .i64 s, .int .i64 hi, .int .i64 lo, f0, f1, f2, f3, .int .i64 0, .slice none 0 0, .slice none 0 0, .slice none 0 0, .int .i64 0], .agg #[.int .i64 4, .int .i64 (-1), .int .i64 0, .int .i64 0, .int .i64 0, .int .i64 0, .int .i64 0, .slice none 0 0, .slice none 0 0, .slice none 0 0, .int .i64 0, .slice none 0 0, .slice none 0 0, .slice none 0 0, .int .i64 0]] w fun e w' => e = .returned (.bool false) ∧ w.grownBy w' none := by
  obtain ⟨wa, hwa⟩ : ∃ wa, wa = (w.alloc (.cells #[.int .i64 4, .int .i64 2, .int .i64 n, .int .i64 s, .int .i64 hi, .int .i64 lo, f0, f1, f2, f3, .int .i64 0, .slice none 0 0, .slice none 0 0, .slice none 0 0, .int .i64 0] 54)).alloc (.cells #[.int .i64 4, .int .i64 (-1), .int .i64 0, .int .i64 0, .int .i64 0, .int .i64 0, .int .i64 0, .slice none 0 0, .slice none 0 0, .slice none 0 0, .int .i64 0, .slice none 0 0, .slice none 0 0, .slice none 0 0, .int .i64 0] 54) := ⟨_, rfl⟩
  have hb : wa.heap[w.heap.size]? = some (.cells #[.int .i64 4, .int .i64 2, .int .i64 n, .int .i64 s, .int .i64 hi, .int .i64 lo, f0, f1, f2, f3, .int .i64 0, .slice none 0 0, .slice none 0 0, .slice none 0 0, .int .i64 0] 54 (0, 0)) := by rw [hwa]; exact (Below.heap_alloc _ _ _ (by rw [World.size_alloc]; omega)).trans (heap_alloc_new w _)
  have ha : wa.heap[w.heap.size + 1]? = some (.cells #[.int .i64 4, .int .i64 (-1), .int .i64 0, .int .i64 0, .int .i64 0, .int .i64 0, .int .i64 0, .slice none 0 0, .slice none 0 0, .slice none 0 0, .int .i64 0, .slice none 0 0, .slice none 0 0, .slice none 0 0, .int .i64 0] 54 (0, 0)) := by rw [hwa]; have := heap_alloc_new (w.alloc (.cells #[.int .i64 4, .int .i64 2, .int .i64 n, .int .i64 s, .int .i64 hi, .int .i64 lo, f0, f1, f2, f3, .int .i64 0, .slice none 0 0, .slice none 0 0, .slice none 0 0, .int .i64 0] 54)) (.cells #[.int .i64 4, .int .i64 (-1), .int .i64 0, .int .i64 0, .int .i64 0, .int .i64 0, .int .i64 0, .slice none 0 0, .slice none 0 0, .slice none 0 0, .int .i64 0, .slice none 0 0, .slice none 0 0, .slice none 0 0, .int .i64 0] 54); rwa [World.size_alloc] at this
  have HG := hide (show w.grownBy wa none by rw [hwa]; exact gb_alloc (gb_alloc (gb_refl w none) _) _)
  have HWE := hide hwa
  have b3 : wa.cell? ⟨w.heap.size, 3, none⟩ = some (.int .i64 s) := by rw [blk_cell hb]; rfl
  have a0 : wa.cell? ⟨w.heap.size + 1, 0, none⟩ = some (.int .i64 4) := by rw [blk_cell ha]; rfl
  have a3 : wa.cell? ⟨w.heap.size + 1, 3, none⟩ = some (.int .i64 0) := by rw [blk_cell ha]; rfl
  have e0 : (s == 0) = true := int_beq_t hs
  clear hwa ha hb hs
  go_enter Tryz.func92, Tryz.ntmps92
  go_upto_region 1 with fail
  rw [← HWE.out]
  go_wp2_with fail
  exact bodyPost_ret (v := .bool false) (by simp [results, Tryz.results92, go_sem]) rfl ⟨rfl, HG.out⟩
set_option maxHeartbeats 4000000 in
set_option maxRecDepth 100000 in
theorem surp5_some (n s hi lo : Int) (f0 f1 f2 f3 : Value) (hs : 0 < s) (w : World) : Calls Tryz.prog 92 #[.agg #[.int .i64 5, .int .i64 2, .int .i64 n, .int .i64 s, .int .i64 hi, .int .i64 lo, f0, f1, f2, f3, .int .i64 0, .slice none 0 0, .slice none 0 0, .slice none 0 0, .int .i64 0], .agg #[.int .i64 5, .int .i64 (-1), .int .i64 0, .int .i64 0, .int .i64 0, .int .i64 0, .int .i64 0, .slice none 0 0, .slice none 0 0, .slice none 0 0, .int .i64 0, .slice none 0 0, .slice none 0 0, .slice none 0 0, .int .i64 0]] w fun e w' => e = .returned (.bool true) ∧ w.grownBy w' none := by
  obtain ⟨wa, hwa⟩ : ∃ wa, wa = (w.alloc (.cells #[.int .i64 5, .int .i64 2, .int .i64 n, .int .i64 s, .int .i64 hi, .int .i64 lo, f0, f1, f2, f3, .int .i64 0, .slice none 0 0, .slice none 0 0, .slice none 0 0, .int .i64 0] 54)).alloc (.cells #[.int .i64 5, .int .i64 (-1), .int .i64 0, .int .i64 0, .int .i64 0, .int .i64 0, .int .i64 0, .slice none 0 0, .slice none 0 0, .slice none 0 0, .int .i64 0, .slice none 0 0, .slice none 0 0, .slice none 0 0, .int .i64 0] 54) := ⟨_, rfl⟩
  have hb : wa.heap[w.heap.size]? = some (.cells #[.int .i64 5, .int .i64 2, .int .i64 n, .int .i64 s, .int .i64 hi, .int .i64 lo, f0, f1, f2, f3, .int .i64 0, .slice none 0 0, .slice none 0 0, .slice none 0 0, .int .i64 0] 54 (0, 0)) := by rw [hwa]; exact (Below.heap_alloc _ _ _ (by rw [World.size_alloc]; omega)).trans (heap_alloc_new w _)
  have ha : wa.heap[w.heap.size + 1]? = some (.cells #[.int .i64 5, .int .i64 (-1), .int .i64 0, .int .i64 0, .int .i64 0, .int .i64 0, .int .i64 0, .slice none 0 0, .slice none 0 0, .slice none 0 0, .int .i64 0, .slice none 0 0, .slice none 0 0, .slice none 0 0, .int .i64 0] 54 (0, 0)) := by rw [hwa]; have := heap_alloc_new (w.alloc (.cells #[.int .i64 5, .int .i64 2, .int .i64 n, .int .i64 s, .int .i64 hi, .int .i64 lo, f0, f1, f2, f3, .int .i64 0, .slice none 0 0, .slice none 0 0, .slice none 0 0, .int .i64 0] 54)) (.cells #[.int .i64 5, .int .i64 (-1), .int .i64 0, .int .i64 0, .int .i64 0, .int .i64 0, .int .i64 0, .slice none 0 0, .slice none 0 0, .slice none 0 0, .int .i64 0, .slice none 0 0, .slice none 0 0, .slice none 0 0, .int .i64 0] 54); rwa [World.size_alloc] at this
  have HG := hide (show w.grownBy wa none by rw [hwa]; exact gb_alloc (gb_alloc (gb_refl w none) _) _)
  have HWE := hide hwa
  have b3 : wa.cell? ⟨w.heap.size, 3, none⟩ = some (.int .i64 s) := by rw [blk_cell hb]; rfl
  have a0 : wa.cell? ⟨w.heap.size + 1, 0, none⟩ = some (.int .i64 5) := by rw [blk_cell ha]; rfl
  have a3 : wa.cell? ⟨w.heap.size + 1, 3, none⟩ = some (.int .i64 0) := by rw [blk_cell ha]; rfl
  have e0 : (s == 0) = false := int_beq_f (by omega)
  clear hwa ha hb hs
  go_enter Tryz.func92, Tryz.ntmps92
  go_upto_region 1 with fail
  rw [← HWE.out]
  go_wp2_with fail
  exact bodyPost_ret (v := .bool true) (by simp [results, Tryz.results92, go_sem]) rfl ⟨rfl, HG.out⟩
set_option maxHeartbeats 4000000 in
set_option maxRecDepth 100000 in
theorem surp5_none (n s hi lo : Int) (f0 f1 f2 f3 : Value) (hs : s = 0) (w : World) : Calls Tryz.prog 92 #[.agg #[.int .i64 5, .int .i64 2, .int .i64 n, .int .i64 s, .int .i64 hi, .int .i64 lo, f0, f1, f2, f3, .int .i64 0, .slice none 0 0, .slice none 0 0, .slice none 0 0, .int .i64 0], .agg #[.int .i64 5, .int .i64 (-1), .int .i64 0, .int .i64 0, .int .i64 0, .int .i64 0, .int .i64 0, .slice none 0 0, .slice none 0 0, .slice none 0 0, .int .i64 0, .slice none 0 0, .slice none 0 0, .slice none 0 0, .int .i64 0]] w fun e w' => e = .returned (.bool false) ∧ w.grownBy w' none := by
  obtain ⟨wa, hwa⟩ : ∃ wa, wa = (w.alloc (.cells #[.int .i64 5, .int .i64 2, .int .i64 n, .int .i64 s, .int .i64 hi, .int .i64 lo, f0, f1, f2, f3, .int .i64 0, .slice none 0 0, .slice none 0 0, .slice none 0 0, .int .i64 0] 54)).alloc (.cells #[.int .i64 5, .int .i64 (-1), .int .i64 0, .int .i64 0, .int .i64 0, .int .i64 0, .int .i64 0, .slice none 0 0, .slice none 0 0, .slice none 0 0, .int .i64 0, .slice none 0 0, .slice none 0 0, .slice none 0 0, .int .i64 0] 54) := ⟨_, rfl⟩
  have hb : wa.heap[w.heap.size]? = some (.cells #[.int .i64 5, .int .i64 2, .int .i64 n, .int .i64 s, .int .i64 hi, .int .i64 lo, f0, f1, f2, f3, .int .i64 0, .slice none 0 0, .slice none 0 0, .slice none 0 0, .int .i64 0] 54 (0, 0)) := by rw [hwa]; exact (Below.heap_alloc _ _ _ (by rw [World.size_alloc]; omega)).trans (heap_alloc_new w _)
  have ha : wa.heap[w.heap.size + 1]? = some (.cells #[.int .i64 5, .int .i64 (-1), .int .i64 0, .int .i64 0, .int .i64 0, .int .i64 0, .int .i64 0, .slice none 0 0, .slice none 0 0, .slice none 0 0, .int .i64 0, .slice none 0 0, .slice none 0 0, .slice none 0 0, .int .i64 0] 54 (0, 0)) := by rw [hwa]; have := heap_alloc_new (w.alloc (.cells #[.int .i64 5, .int .i64 2, .int .i64 n, .int .i64 s, .int .i64 hi, .int .i64 lo, f0, f1, f2, f3, .int .i64 0, .slice none 0 0, .slice none 0 0, .slice none 0 0, .int .i64 0] 54)) (.cells #[.int .i64 5, .int .i64 (-1), .int .i64 0, .int .i64 0, .int .i64 0, .int .i64 0, .int .i64 0, .slice none 0 0, .slice none 0 0, .slice none 0 0, .int .i64 0, .slice none 0 0, .slice none 0 0, .slice none 0 0, .int .i64 0] 54); rwa [World.size_alloc] at this
  have HG := hide (show w.grownBy wa none by rw [hwa]; exact gb_alloc (gb_alloc (gb_refl w none) _) _)
  have HWE := hide hwa
  have b3 : wa.cell? ⟨w.heap.size, 3, none⟩ = some (.int .i64 s) := by rw [blk_cell hb]; rfl
  have a0 : wa.cell? ⟨w.heap.size + 1, 0, none⟩ = some (.int .i64 5) := by rw [blk_cell ha]; rfl
  have a3 : wa.cell? ⟨w.heap.size + 1, 3, none⟩ = some (.int .i64 0) := by rw [blk_cell ha]; rfl
  have e0 : (s == 0) = true := int_beq_t hs
  clear hwa ha hb hs
  go_enter Tryz.func92, Tryz.ntmps92
  go_upto_region 1 with fail
  rw [← HWE.out]
  go_wp2_with fail
  exact bodyPost_ret (v := .bool false) (by simp [results, Tryz.results92, go_sem]) rfl ⟨rfl, HG.out⟩
set_option maxHeartbeats 4000000 in
set_option maxRecDepth 100000 in
theorem surp6_some (n s hi lo : Int) (f0 f1 f2 f3 : Value) (hs : 0 < s) (w : World) : Calls Tryz.prog 92 #[.agg #[.int .i64 6, .int .i64 2, .int .i64 n, .int .i64 s, .int .i64 hi, .int .i64 lo, f0, f1, f2, f3, .int .i64 0, .slice none 0 0, .slice none 0 0, .slice none 0 0, .int .i64 0], .agg #[.int .i64 6, .int .i64 (-1), .int .i64 0, .int .i64 0, .int .i64 0, .int .i64 0, .int .i64 0, .slice none 0 0, .slice none 0 0, .slice none 0 0, .int .i64 0, .slice none 0 0, .slice none 0 0, .slice none 0 0, .int .i64 0]] w fun e w' => e = .returned (.bool false) ∧ w.grownBy w' none := by
  obtain ⟨wa, hwa⟩ : ∃ wa, wa = (w.alloc (.cells #[.int .i64 6, .int .i64 2, .int .i64 n, .int .i64 s, .int .i64 hi, .int .i64 lo, f0, f1, f2, f3, .int .i64 0, .slice none 0 0, .slice none 0 0, .slice none 0 0, .int .i64 0] 54)).alloc (.cells #[.int .i64 6, .int .i64 (-1), .int .i64 0, .int .i64 0, .int .i64 0, .int .i64 0, .int .i64 0, .slice none 0 0, .slice none 0 0, .slice none 0 0, .int .i64 0, .slice none 0 0, .slice none 0 0, .slice none 0 0, .int .i64 0] 54) := ⟨_, rfl⟩
  have hb : wa.heap[w.heap.size]? = some (.cells #[.int .i64 6, .int .i64 2, .int .i64 n, .int .i64 s, .int .i64 hi, .int .i64 lo, f0, f1, f2, f3, .int .i64 0, .slice none 0 0, .slice none 0 0, .slice none 0 0, .int .i64 0] 54 (0, 0)) := by rw [hwa]; exact (Below.heap_alloc _ _ _ (by rw [World.size_alloc]; omega)).trans (heap_alloc_new w _)
  have ha : wa.heap[w.heap.size + 1]? = some (.cells #[.int .i64 6, .int .i64 (-1), .int .i64 0, .int .i64 0, .int .i64 0, .int .i64 0, .int .i64 0, .slice none 0 0, .slice none 0 0, .slice none 0 0, .int .i64 0, .slice none 0 0, .slice none 0 0, .slice none 0 0, .int .i64 0] 54 (0, 0)) := by rw [hwa]; have := heap_alloc_new (w.alloc (.cells #[.int .i64 6, .int .i64 2, .int .i64 n, .int .i64 s, .int .i64 hi, .int .i64 lo, f0, f1, f2, f3, .int .i64 0, .slice none 0 0, .slice none 0 0, .slice none 0 0, .int .i64 0] 54)) (.cells #[.int .i64 6, .int .i64 (-1), .int .i64 0, .int .i64 0, .int .i64 0, .int .i64 0, .int .i64 0, .slice none 0 0, .slice none 0 0, .slice none 0 0, .int .i64 0, .slice none 0 0, .slice none 0 0, .slice none 0 0, .int .i64 0] 54); rwa [World.size_alloc] at this
  have HG := hide (show w.grownBy wa none by rw [hwa]; exact gb_alloc (gb_alloc (gb_refl w none) _) _)
  have HWE := hide hwa
  have b3 : wa.cell? ⟨w.heap.size, 3, none⟩ = some (.int .i64 s) := by rw [blk_cell hb]; rfl
  have a0 : wa.cell? ⟨w.heap.size + 1, 0, none⟩ = some (.int .i64 6) := by rw [blk_cell ha]; rfl
  have a3 : wa.cell? ⟨w.heap.size + 1, 3, none⟩ = some (.int .i64 0) := by rw [blk_cell ha]; rfl
  have e0 : (s == 0) = false := int_beq_f (by omega)
  clear hwa ha hb hs
  go_enter Tryz.func92, Tryz.ntmps92
  go_upto_region 1 with fail
  rw [← HWE.out]
  go_wp2_with fail
  exact bodyPost_ret (v := .bool false) (by simp [results, Tryz.results92, go_sem]) rfl ⟨rfl, HG.out⟩
set_option maxHeartbeats 4000000 in
set_option maxRecDepth 100000 in
theorem surp6_none (n s hi lo : Int) (f0 f1 f2 f3 : Value) (hs : s = 0) (w : World) : Calls Tryz.prog 92 #[.agg #[.int .i64 6, .int .i64 2, .int .i64 n, .int .i64 s, .int .i64 hi, .int .i64 lo, f0, f1, f2, f3, .int .i64 0, .slice none 0 0, .slice none 0 0, .slice none 0 0, .int .i64 0], .agg #[.int .i64 6, .int .i64 (-1), .int .i64 0, .int .i64 0, .int .i64 0, .int .i64 0, .int .i64 0, .slice none 0 0, .slice none 0 0, .slice none 0 0, .int .i64 0, .slice none 0 0, .slice none 0 0, .slice none 0 0, .int .i64 0]] w fun e w' => e = .returned (.bool false) ∧ w.grownBy w' none := by
  obtain ⟨wa, hwa⟩ : ∃ wa, wa = (w.alloc (.cells #[.int .i64 6, .int .i64 2, .int .i64 n, .int .i64 s, .int .i64 hi, .int .i64 lo, f0, f1, f2, f3, .int .i64 0, .slice none 0 0, .slice none 0 0, .slice none 0 0, .int .i64 0] 54)).alloc (.cells #[.int .i64 6, .int .i64 (-1), .int .i64 0, .int .i64 0, .int .i64 0, .int .i64 0, .int .i64 0, .slice none 0 0, .slice none 0 0, .slice none 0 0, .int .i64 0, .slice none 0 0, .slice none 0 0, .slice none 0 0, .int .i64 0] 54) := ⟨_, rfl⟩
  have hb : wa.heap[w.heap.size]? = some (.cells #[.int .i64 6, .int .i64 2, .int .i64 n, .int .i64 s, .int .i64 hi, .int .i64 lo, f0, f1, f2, f3, .int .i64 0, .slice none 0 0, .slice none 0 0, .slice none 0 0, .int .i64 0] 54 (0, 0)) := by rw [hwa]; exact (Below.heap_alloc _ _ _ (by rw [World.size_alloc]; omega)).trans (heap_alloc_new w _)
  have ha : wa.heap[w.heap.size + 1]? = some (.cells #[.int .i64 6, .int .i64 (-1), .int .i64 0, .int .i64 0, .int .i64 0, .int .i64 0, .int .i64 0, .slice none 0 0, .slice none 0 0, .slice none 0 0, .int .i64 0, .slice none 0 0, .slice none 0 0, .slice none 0 0, .int .i64 0] 54 (0, 0)) := by rw [hwa]; have := heap_alloc_new (w.alloc (.cells #[.int .i64 6, .int .i64 2, .int .i64 n, .int .i64 s, .int .i64 hi, .int .i64 lo, f0, f1, f2, f3, .int .i64 0, .slice none 0 0, .slice none 0 0, .slice none 0 0, .int .i64 0] 54)) (.cells #[.int .i64 6, .int .i64 (-1), .int .i64 0, .int .i64 0, .int .i64 0, .int .i64 0, .int .i64 0, .slice none 0 0, .slice none 0 0, .slice none 0 0, .int .i64 0, .slice none 0 0, .slice none 0 0, .slice none 0 0, .int .i64 0] 54); rwa [World.size_alloc] at this
  have HG := hide (show w.grownBy wa none by rw [hwa]; exact gb_alloc (gb_alloc (gb_refl w none) _) _)
  have HWE := hide hwa
  have b3 : wa.cell? ⟨w.heap.size, 3, none⟩ = some (.int .i64 s) := by rw [blk_cell hb]; rfl
  have a0 : wa.cell? ⟨w.heap.size + 1, 0, none⟩ = some (.int .i64 6) := by rw [blk_cell ha]; rfl
  have a3 : wa.cell? ⟨w.heap.size + 1, 3, none⟩ = some (.int .i64 0) := by rw [blk_cell ha]; rfl
  have e0 : (s == 0) = true := int_beq_t hs
  clear hwa ha hb hs
  go_enter Tryz.func92, Tryz.ntmps92
  go_upto_region 1 with fail
  rw [← HWE.out]
  go_wp2_with fail
  exact bodyPost_ret (v := .bool false) (by simp [results, Tryz.results92, go_sem]) rfl ⟨rfl, HG.out⟩
end Go.Proofs.YtgepejnooghjbaaGreat
