/-
  agg.piece of an int vector.
-/
import Derived.Test.YtgepejnooghjbaaGreatQak
import Derived.Test.YtgepejnooghjbaaGreatQam
import Derived.Test.YtgepejnooghjbaaGreatQae

namespace Go.Proofs.YtgepejnooghjbaaGreat
open Go.RowKit
attribute [local go_sem ↓] Go.wp_at_zero Go.wp_at_succ

/-- The zero V. -/
def emp8 : Vl := .mk 0 [] [] []
/-- An Acc handed back: its numbers, its sum, its First; Last is the zero V. -/
def AccP (op T cnt some sum : Int) (F : Vl) (w : World) (e : Ending) (w' : World) : Prop := ∃ fA fc gA gc hA hc f, e = .returned (.agg #[.int .i64 op, .int .i64 T, .int .i64 cnt, .int .i64 some, .int .i64 (sum / 4294967296), .int .i64 (sum % 4294967296), .int .i64 F.t, .slice fA F.n.length fc, .slice gA F.s.length gc, .slice hA F.l.length hc, .int .i64 0, .slice none 0 0, .slice none 0 0, .slice none 0 0, .int .i64 0]) ∧ VOw w' F [.int .i64 F.t, .slice fA F.n.length fc, .slice gA F.s.length gc, .slice hA F.l.length hc] f ∧ (∀ b ∈ f, w.heap.size ≤ b) ∧ w.grownBy w' none
theorem at_ints (ls : List Int) (k : Nat) (hk : k < ls.length) (q : Int) (hq : ls[k] = q) (w : World) (nA : Option Addr) (nc : Nat) (sA : Option Addr) (sc : Nat) (lA : Option Addr) (lc : Nat) (hl : ls.length ≤ 450000) (h : VB w w.heap.size (.mk 2 ls [] []) nA nc sA sc lA lc) :
    Calls Tryz.prog 94 #[.agg #[.int .i64 2, .slice nA ls.length nc, .slice sA 0 sc, .slice lA 0 lc], .int .i64 (k : Int)] w (fun e w' => ∃ eA ec eB ed eC ee f, e = .returned (.tuple #[.agg #[.int .i64 (-2), .slice eA 1 ec, .slice eB 0 ed, .slice eC 0 ee], .int .i64 0]) ∧ VOw w' (.mk (-2) [q] [] []) [.int .i64 (-2), .slice eA 1 ec, .slice eB 0 ed, .slice eC 0 ee] f ∧ New w w' f ∧ w.grownBy w' none) := by
  have hc : (Vl.mk 2 ls [] []).count = ls.length := by rw [Vl.count_def, if_pos (.inr (.inl rfl))]; rfl
  have h1 := at_else (.mk 2 ls [] []) (k : Int) w w.heap.size nA nc sA sc lA lc (show ¬ (2 : Int) = 98 by decide) (fun h => absurd h.1 (show ¬ (2 : Int) = 99 by decide)) (by rw [Vl.tot_def]; show 1 + ls.length + 0 + 0 + 0 ≤ 500000; omega) (Nat.le_refl _) h
  rw [hc, if_pos ⟨by omega, by omega⟩] at h1
  have he : elemV (Vl.mk 2 ls [] []) (k : Int).toNat = .mk (-2) [q] [] [] := by
    unfold elemV
    have t2 : (Vl.mk 2 ls [] []).t = 2 := rfl
    rw [t2, if_neg (show ¬ (2 : Int) = 0 by decide), if_neg (show ¬ (2 : Int) = 3 by decide), if_pos (show (0 : Int) < 2 ∧ hasN 2 = true from ⟨by decide, by rfl⟩), Int.toNat_natCast]
    show Vl.mk (-2) [ls.getD k 0] [] [] = _
    rw [List.getD_eq_getElem?_getD, List.getElem?_eq_getElem hk, ← hq]
    rfl
  rw [he] at h1
  exact h1
theorem vow_emp8 (w : World) : VOw w emp8 [.int .i64 0, .slice none 0 0, .slice none 0 0, .slice none 0 0] [] :=
  ⟨none, 0, none, 0, none, 0, [], [], [], [], [], rfl, ⟨Nat.le_refl _, Nat.le_refl _, Nat.le_refl _⟩, ⟨.inl ⟨rfl, rfl⟩, .inl ⟨rfl, rfl⟩, .inl ⟨rfl, rfl⟩⟩, ⟨rfl, rfl⟩, rfl⟩
set_option maxHeartbeats 4000000 in
set_option maxRecDepth 100000 in
theorem piece4_some (l : List Int) (hI : ∀ k ∈ l, I64 k) (hl6 : l.length ≤ 400000) (hs : 0 < nnI l) (w : World) (B : Nat) (nA : Option Addr) (nc : Nat) (sA : Option Addr) (sc : Nat) (lA : Option Addr) (lc : Nat) (ht : (Vl.mk 2 l [] []).tot ≤ 500000) (hB : B ≤ w.heap.size) (h : VB w B (.mk 2 l [] []) nA nc sA sc lA lc) : Calls Tryz.prog 62 #[.int .i64 4, .agg #[.int .i64 2, .slice nA l.length nc, .slice sA 0 sc, .slice lA 0 lc]] w (AccP 4 2 l.length (nnI l) 0 (.mk (-2) [pickI l (-9223372036854775808) (bestN false l l.length)] [] []) w) := by
  have hl : l.length ≤ 1100000 := by omega
  obtain ⟨wa, hwa⟩ : ∃ wa, wa = ((w.alloc (.cells #[.int .i64 2, .slice nA l.length nc, .slice sA 0 sc, .slice lA 0 lc] 26)).alloc (.cells #[.int .i64 0, .int .i64 0, .int .i64 0, .int .i64 0, .int .i64 0, .int .i64 0, .int .i64 0, .slice none 0 0, .slice none 0 0, .slice none 0 0, .int .i64 0, .slice none 0 0, .slice none 0 0, .slice none 0 0, .int .i64 0] 54)).alloc (.cells #[.int .i64 4, .int .i64 (-1), .int .i64 0, .int .i64 0, .int .i64 0, .int .i64 0, .int .i64 0, .slice none 0 0, .slice none 0 0, .slice none 0 0, .int .i64 0, .slice none 0 0, .slice none 0 0, .slice none 0 0, .int .i64 0] 54) := ⟨_, rfl⟩
  have bx : wa.heap[w.heap.size]? = some (.cells #[.int .i64 2, .slice nA l.length nc, .slice sA 0 sc, .slice lA 0 lc] 26 (0, 0)) := by rw [hwa]; exact (Below.heap_alloc _ _ _ (by rw [World.size_alloc, World.size_alloc]; omega)).trans ((Below.heap_alloc _ _ _ (by rw [World.size_alloc]; omega)).trans (heap_alloc_new w _))
  have bz : wa.heap[(w.heap.size + 1)]? = some (.cells #[.int .i64 0, .int .i64 0, .int .i64 0, .int .i64 0, .int .i64 0, .int .i64 0, .int .i64 0, .slice none 0 0, .slice none 0 0, .slice none 0 0, .int .i64 0, .slice none 0 0, .slice none 0 0, .slice none 0 0, .int .i64 0] 54 (0, 0)) := by rw [hwa]; refine (Below.heap_alloc _ _ _ (by rw [World.size_alloc, World.size_alloc]; omega)).trans ?_; have := heap_alloc_new (w.alloc (.cells #[.int .i64 2, .slice nA l.length nc, .slice sA 0 sc, .slice lA 0 lc] 26)) (.cells #[.int .i64 0, .int .i64 0, .int .i64 0, .int .i64 0, .int .i64 0, .int .i64 0, .int .i64 0, .slice none 0 0, .slice none 0 0, .slice none 0 0, .int .i64 0, .slice none 0 0, .slice none 0 0, .slice none 0 0, .int .i64 0] 54); rwa [World.size_alloc] at this
  have b5 : wa.heap[(w.heap.size + 1 + 1)]? = some (.cells #[.int .i64 4, .int .i64 (-1), .int .i64 0, .int .i64 0, .int .i64 0, .int .i64 0, .int .i64 0, .slice none 0 0, .slice none 0 0, .slice none 0 0, .int .i64 0, .slice none 0 0, .slice none 0 0, .slice none 0 0, .int .i64 0] 54 (0, 0)) := by rw [hwa]; have := heap_alloc_new ((w.alloc (.cells #[.int .i64 2, .slice nA l.length nc, .slice sA 0 sc, .slice lA 0 lc] 26)).alloc (.cells #[.int .i64 0, .int .i64 0, .int .i64 0, .int .i64 0, .int .i64 0, .int .i64 0, .int .i64 0, .slice none 0 0, .slice none 0 0, .slice none 0 0, .int .i64 0, .slice none 0 0, .slice none 0 0, .slice none 0 0, .int .i64 0] 54)) (.cells #[.int .i64 4, .int .i64 (-1), .int .i64 0, .int .i64 0, .int .i64 0, .int .i64 0, .int .i64 0, .slice none 0 0, .slice none 0 0, .slice none 0 0, .int .i64 0, .slice none 0 0, .slice none 0 0, .slice none 0 0, .int .i64 0] 54); rwa [World.size_alloc, World.size_alloc] at this
  have HBX := hide bx
  have HBZ := hide bz
  have HB5 := hide b5
  have HSZ := hide (show wa.heap.size = w.heap.size + 3 by rw [hwa]; simp)
  have HG := hide (show w.grownBy wa none by rw [hwa]; exact gb_alloc (gb_alloc (gb_alloc (gb_refl w none) _) _) _)
  have HWE := hide hwa
  have HCN : Hid (∀ w2, w.grownBy w2 none → Calls Tryz.prog 35 #[.agg #[.int .i64 2, .slice nA l.length nc, .slice sA 0 sc, .slice lA 0 lc]] w2 fun e w' => e = .returned (.int .i64 (l.length : Nat)) ∧ w2.grownBy w' none) := hide (fun w2 hg => count_d (Vl.mk 2 l [] []).depth (Vl.mk 2 l [] []) w2 B nA nc sA sc lA lc (Nat.le_refl _) (by omega) (Nat.le_trans hB hg.size) (h.gb hg hB))
  have HSM := hide (fun w2 (hg : w.grownBy w2 none) => some_int l w2 B nA nc sA sc lA lc (by omega) (Nat.le_trans hB hg.size) (h.gb hg hB))
  have HLD := hide (fun w2 (hg : w.grownBy w2 none) => leadUp_int l hI (by omega) w2 B nA nc sA sc lA lc (by omega) (Nat.le_trans hB hg.size) (h.gb hg hB))
  have HTK := hide (fun w2 => takes_int 4 (by decide) (by decide) w2)
  have HL := hide hl
  have HL6 := hide hl6
  have HSP := hide hs
  have hnn := nnI_le l
  have HNN := hide hnn
  obtain ⟨c0, c1, c2, c3⟩ : C4 wa w.heap.size 0 (.int .i64 2) (.slice nA l.length nc) (.slice sA 0 sc) (.slice lA 0 lc) := (by have h := blk_keep HBX.out (gb_refl wa none) (by simp); exact ⟨by rw [blk_cell h]; rfl, by rw [blk_cell h]; rfl, by rw [blk_cell h]; rfl, by rw [blk_cell h]; rfl⟩)
  clear bx bz b5 hwa h hB ht hl hI hl6 hs hnn
  go_enter Tryz.func62, Tryz.ntmps62
  go_upto_region 2 with fail
  rw [← HWE.out]
  go_upto_region 6 with (first
    | (go_at_call 38; refine (HTK.out _).mono ?_; rintro e w1 ⟨rfl, rfl⟩)
    | (go_at_call 35; refine (HCN.out _ HG.out).mono ?_; rintro e w2 ⟨rfl, hg2⟩; have HG2 := hide hg2; clear hg2 c0 c1 c2 c3))
  obtain ⟨c0, c1, c2, c3⟩ : C4 w2 w.heap.size 0 (.int .i64 2) (.slice nA l.length nc) (.slice sA 0 sc) (.slice lA 0 lc) := (by have h := blk_keep HBX.out HG2.out (by simp); exact ⟨by rw [blk_cell h]; rfl, by rw [blk_cell h]; rfl, by rw [blk_cell h]; rfl, by rw [blk_cell h]; rfl⟩)
  have hb2 := blk_keep HB5.out HG2.out (by simp)
  have a0 : w2.cell? ⟨(w.heap.size + 1 + 1), 0, none⟩ = some (.int .i64 4) := by rw [blk_cell hb2]; rfl
  have a1 : w2.cell? ⟨(w.heap.size + 1 + 1), 1, none⟩ = some (.int .i64 (-1)) := by rw [blk_cell hb2]; rfl
  have a2 : w2.cell? ⟨(w.heap.size + 1 + 1), 2, none⟩ = some (.int .i64 0) := by rw [blk_cell hb2]; rfl
  have a3 : w2.cell? ⟨(w.heap.size + 1 + 1), 3, none⟩ = some (.int .i64 0) := by rw [blk_cell hb2]; rfl
  have a4 : w2.cell? ⟨(w.heap.size + 1 + 1), 4, none⟩ = some (.int .i64 0) := by rw [blk_cell hb2]; rfl
  have a5 : w2.cell? ⟨(w.heap.size + 1 + 1), 5, none⟩ = some (.int .i64 0) := by rw [blk_cell hb2]; rfl
  have a6 : w2.cell? ⟨(w.heap.size + 1 + 1), 6, none⟩ = some (.int .i64 0) := by rw [blk_cell hb2]; rfl
  have a7 : w2.cell? ⟨(w.heap.size + 1 + 1), 7, none⟩ = some (.slice none 0 0) := by rw [blk_cell hb2]; rfl
  have a8 : w2.cell? ⟨(w.heap.size + 1 + 1), 8, none⟩ = some (.slice none 0 0) := by rw [blk_cell hb2]; rfl
  have a9 : w2.cell? ⟨(w.heap.size + 1 + 1), 9, none⟩ = some (.slice none 0 0) := by rw [blk_cell hb2]; rfl
  have a10 : w2.cell? ⟨(w.heap.size + 1 + 1), 10, none⟩ = some (.int .i64 0) := by rw [blk_cell hb2]; rfl
  have a11 : w2.cell? ⟨(w.heap.size + 1 + 1), 11, none⟩ = some (.slice none 0 0) := by rw [blk_cell hb2]; rfl
  have a12 : w2.cell? ⟨(w.heap.size + 1 + 1), 12, none⟩ = some (.slice none 0 0) := by rw [blk_cell hb2]; rfl
  have a13 : w2.cell? ⟨(w.heap.size + 1 + 1), 13, none⟩ = some (.slice none 0 0) := by rw [blk_cell hb2]; rfl
  have a14 : w2.cell? ⟨(w.heap.size + 1 + 1), 14, none⟩ = some (.int .i64 0) := by rw [blk_cell hb2]; rfl
  have z0 := blk_frozen hb2 0
  have z1 := blk_frozen hb2 1
  have z2 := blk_frozen hb2 2
  have z3 := blk_frozen hb2 3
  have z4 := blk_frozen hb2 4
  have z5 := blk_frozen hb2 5
  have z6 := blk_frozen hb2 6
  have z7 := blk_frozen hb2 7
  have z8 := blk_frozen hb2 8
  have z9 := blk_frozen hb2 9
  have z10 := blk_frozen hb2 10
  have z11 := blk_frozen hb2 11
  have z12 := blk_frozen hb2 12
  have z13 := blk_frozen hb2 13
  have z14 := blk_frozen hb2 14
  clear hb2
  go_cut [] (fun wc => (wc.heap[(w.heap.size + 1 + 1)]? = some (.cells #[.int .i64 4, .int .i64 2, .int .i64 (l.length : Int), .int .i64 (nnI l : Int), .int .i64 0, .int .i64 0, .int .i64 0, .slice none 0 0, .slice none 0 0, .slice none 0 0, .int .i64 0, .slice none 0 0, .slice none 0 0, .slice none 0 0, .int .i64 0] 54 (0, 0)) ∧ wc.heap[w.heap.size + 1]? = some (.cells #[.int .i64 0, .int .i64 0, .int .i64 0, .int .i64 0, .int .i64 0, .int .i64 0, .int .i64 0, .slice none 0 0, .slice none 0 0, .slice none 0 0, .int .i64 0, .slice none 0 0, .slice none 0 0, .slice none 0 0, .int .i64 0] 54 (0, 0)) ∧ wc.heap[w.heap.size]? = some (.cells #[.int .i64 2, .slice nA l.length nc, .slice sA 0 sc, .slice lA 0 lc] 26 (0, 0))) ∧ w.grownBy wc none ∧ w.heap.size + 3 ≤ wc.heap.size)
  case first =>
    go_region_law ((go_simp; go_at_call 93; refine (HSM.out w2.drew (gb_trans HG.out (gb_drew HG2.out) (.inl rfl))).mono ?_; rintro e w3 ⟨rfl, hg3⟩; have HG3 := hide (show w2.grownBy w3 none from ⟨hg3.os, hg3.tape, hg3.output, hg3.size, hg3.block⟩); clear hg3 c0 c1 c2 c3 a0 a1 a2 a3 a4 a5 a6 a7 a8 a9 a10 a11 a12 a13 a14 z0 z1 z2 z3 z4 z5 z6 z7 z8 z9 z10 z11 z12 z13 z14; have hb3 := blk_keep HB5.out (gb_trans HG2.out HG3.out (.inl rfl)) (by simp); have HB3 := hide hb3; obtain ⟨c0, c1, c2, c3⟩ : C4 w3 w.heap.size 0 (.int .i64 2) (.slice nA l.length nc) (.slice sA 0 sc) (.slice lA 0 lc) := (by have h := blk_keep HBX.out (gb_trans HG2.out HG3.out (.inl rfl)) (by simp); exact ⟨by rw [blk_cell h]; rfl, by rw [blk_cell h]; rfl, by rw [blk_cell h]; rfl, by rw [blk_cell h]; rfl⟩); have a0 : w3.cell? ⟨(w.heap.size + 1 + 1), 0, none⟩ = some (.int .i64 4) := (by { rw [blk_cell hb3]; rfl }); have a1 : w3.cell? ⟨(w.heap.size + 1 + 1), 1, none⟩ = some (.int .i64 (-1)) := (by { rw [blk_cell hb3]; rfl }); have a2 : w3.cell? ⟨(w.heap.size + 1 + 1), 2, none⟩ = some (.int .i64 0) := (by { rw [blk_cell hb3]; rfl }); have a3 : w3.cell? ⟨(w.heap.size + 1 + 1), 3, none⟩ = some (.int .i64 0) := (by { rw [blk_cell hb3]; rfl }); have a4 : w3.cell? ⟨(w.heap.size + 1 + 1), 4, none⟩ = some (.int .i64 0) := (by { rw [blk_cell hb3]; rfl }); have a5 : w3.cell? ⟨(w.heap.size + 1 + 1), 5, none⟩ = some (.int .i64 0) := (by { rw [blk_cell hb3]; rfl }); have a6 : w3.cell? ⟨(w.heap.size + 1 + 1), 6, none⟩ = some (.int .i64 0) := (by { rw [blk_cell hb3]; rfl }); have a7 : w3.cell? ⟨(w.heap.size + 1 + 1), 7, none⟩ = some (.slice none 0 0) := (by { rw [blk_cell hb3]; rfl }); have a8 : w3.cell? ⟨(w.heap.size + 1 + 1), 8, none⟩ = some (.slice none 0 0) := (by { rw [blk_cell hb3]; rfl }); have a9 : w3.cell? ⟨(w.heap.size + 1 + 1), 9, none⟩ = some (.slice none 0 0) := (by { rw [blk_cell hb3]; rfl }); have a10 : w3.cell? ⟨(w.heap.size + 1 + 1), 10, none⟩ = some (.int .i64 0) := (by { rw [blk_cell hb3]; rfl }); have a11 : w3.cell? ⟨(w.heap.size + 1 + 1), 11, none⟩ = some (.slice none 0 0) := (by { rw [blk_cell hb3]; rfl }); have a12 : w3.cell? ⟨(w.heap.size + 1 + 1), 12, none⟩ = some (.slice none 0 0) := (by { rw [blk_cell hb3]; rfl }); have a13 : w3.cell? ⟨(w.heap.size + 1 + 1), 13, none⟩ = some (.slice none 0 0) := (by { rw [blk_cell hb3]; rfl }); have a14 : w3.cell? ⟨(w.heap.size + 1 + 1), 14, none⟩ = some (.int .i64 0) := (by { rw [blk_cell hb3]; rfl }); have z0 := blk_frozen hb3 0; have z1 := blk_frozen hb3 1; have z2 := blk_frozen hb3 2; have z3 := blk_frozen hb3 3; have z4 := blk_frozen hb3 4; have z5 := blk_frozen hb3 5; have z6 := blk_frozen hb3 6; have z7 := blk_frozen hb3 7; have z8 := blk_frozen hb3 8; have z9 := blk_frozen hb3 9; have z10 := blk_frozen hb3 10; have z11 := blk_frozen hb3 11; have z12 := blk_frozen hb3 12; have z13 := blk_frozen hb3 13; have z14 := blk_frozen hb3 14; clear hb3))
    all_goals
      go_wp2_with fail
      go_meet
      case rel =>
        have hg23 := gb_trans HG2.out HG3.out (.inl rfl)
        refine ⟨⟨blk_set (blk_set (blk_set HB3.out 1 _) 2 _) 3 _, ?_, ?_⟩, ?_, ?_⟩
        · exact (Below.heap_setCell _ ⟨w.heap.size + 1 + 1, 3, none⟩ _ _ (by simp)).trans ((Below.heap_setCell _ ⟨w.heap.size + 1 + 1, 2, none⟩ _ _ (by simp)).trans ((Below.heap_setCell _ ⟨w.heap.size + 1 + 1, 1, none⟩ _ _ (by simp)).trans (blk_keep HBZ.out hg23 (by simp))))
        · exact (Below.heap_setCell _ ⟨w.heap.size + 1 + 1, 3, none⟩ _ _ (show w.heap.size ≠ (w.heap.size + 1 + 1) by omega)).trans ((Below.heap_setCell _ ⟨w.heap.size + 1 + 1, 2, none⟩ _ _ (show w.heap.size ≠ (w.heap.size + 1 + 1) by omega)).trans ((Below.heap_setCell _ ⟨w.heap.size + 1 + 1, 1, none⟩ _ _ (show w.heap.size ≠ (w.heap.size + 1 + 1) by omega)).trans (blk_keep HBX.out hg23 (by simp))))
        · exact gb_setCell (gb_setCell (gb_setCell (gb_trans HG.out hg23 (.inl rfl)) (.inr (show w.heap.size ≤ w.heap.size + 1 + 1 by omega)) _) (.inr (show w.heap.size ≤ w.heap.size + 1 + 1 by omega)) _) (.inr (show w.heap.size ≤ w.heap.size + 1 + 1 by omega)) _
        · have := HSZ.out
          have := hg23.size
          simp [World.setCell]
          omega
  case rest =>
    obtain ⟨⟨hb5, hbz, hbx⟩, hgc, hsz⟩ := hcut
    have HB5c := hide hb5
    have HBZc := hide hbz
    have HBXc := hide hbx
    have HGC := hide hgc
    have HSZc := hide hsz
    clear HB5 HBZ HBX HG2 HG HSZ HWE hgc hsz hbx hbz hb5 a0 a1 a2 a3 a4 a5 a6 a7 a8 a9 a10 a11 a12 a13 a14 z0 z1 z2 z3 z4 z5 z6 z7 z8 z9 z10 z11 z12 z13 z14 c0 c1 c2 c3
    have hc1 : (0 : Int) < (nnI l : Int) := by have := HSP.out; omega
    have hcn : IntKind.i64.wrap ((l.length : Int) - 1) = ((l.length - 1 : Nat) : Int) := by have := HSP.out; have := HNN.out; have := HL.out; rw [IntKind.wrap_i64]; omega
    obtain ⟨ls, hls⟩ : ∃ ls, ls = ((List.range l.length).map fun i => bestN false l (i + 1)).map (pickI l (-9223372036854775808)) := ⟨_, rfl⟩
    have hll : ls.length = l.length := by rw [hls]; simp
    have hlk : l.length - 1 < ls.length := by have := HSP.out; have := HNN.out; omega
    obtain ⟨q, hq⟩ : ∃ q, q = pickI l (-9223372036854775808) (bestN false l l.length) := ⟨_, rfl⟩
    have hlq : ls[l.length - 1] = q := by
      have := HSP.out
      have := HNN.out
      subst hls
      simp only [List.getElem_map, List.getElem_range]
      rw [hq, show l.length - 1 + 1 = l.length by omega]
    rw [← hls] at HLD
    have HAT := hide (fun (w2 : World) (mA : Option Addr) (mc : Nat) (gA : Option Addr) (gc : Nat) (hA : Option Addr) (hc : Nat) (hv : VB w2 w2.heap.size (.mk 2 ls [] []) mA mc gA gc hA hc) => at_ints ls (l.length - 1) hlk q hlq w2 mA mc gA gc hA hc (by have := HL6.out; omega) hv)
    have HQ := hide hq
    obtain ⟨c0, c1, c2, c3⟩ : C4 wc w.heap.size 0 (.int .i64 2) (.slice nA l.length nc) (.slice sA 0 sc) (.slice lA 0 lc) := ⟨by rw [blk_cell HBXc.out]; rfl, by rw [blk_cell HBXc.out]; rfl, by rw [blk_cell HBXc.out]; rfl, by rw [blk_cell HBXc.out]; rfl⟩
    have a0 : wc.cell? ⟨(w.heap.size + 1 + 1), 0, none⟩ = some (.int .i64 4) := by rw [blk_cell HB5c.out]; rfl
    have a1 : wc.cell? ⟨(w.heap.size + 1 + 1), 1, none⟩ = some (.int .i64 2) := by rw [blk_cell HB5c.out]; rfl
    have a2 : wc.cell? ⟨(w.heap.size + 1 + 1), 2, none⟩ = some (.int .i64 (l.length : Int)) := by rw [blk_cell HB5c.out]; rfl
    have a3 : wc.cell? ⟨(w.heap.size + 1 + 1), 3, none⟩ = some (.int .i64 (nnI l : Int)) := by rw [blk_cell HB5c.out]; rfl
    have a4 : wc.cell? ⟨(w.heap.size + 1 + 1), 4, none⟩ = some (.int .i64 0) := by rw [blk_cell HB5c.out]; rfl
    have a5 : wc.cell? ⟨(w.heap.size + 1 + 1), 5, none⟩ = some (.int .i64 0) := by rw [blk_cell HB5c.out]; rfl
    have a6 : wc.cell? ⟨(w.heap.size + 1 + 1), 6, none⟩ = some (.int .i64 0) := by rw [blk_cell HB5c.out]; rfl
    have a7 : wc.cell? ⟨(w.heap.size + 1 + 1), 7, none⟩ = some (.slice none 0 0) := by rw [blk_cell HB5c.out]; rfl
    have a8 : wc.cell? ⟨(w.heap.size + 1 + 1), 8, none⟩ = some (.slice none 0 0) := by rw [blk_cell HB5c.out]; rfl
    have a9 : wc.cell? ⟨(w.heap.size + 1 + 1), 9, none⟩ = some (.slice none 0 0) := by rw [blk_cell HB5c.out]; rfl
    have a10 : wc.cell? ⟨(w.heap.size + 1 + 1), 10, none⟩ = some (.int .i64 0) := by rw [blk_cell HB5c.out]; rfl
    have a11 : wc.cell? ⟨(w.heap.size + 1 + 1), 11, none⟩ = some (.slice none 0 0) := by rw [blk_cell HB5c.out]; rfl
    have a12 : wc.cell? ⟨(w.heap.size + 1 + 1), 12, none⟩ = some (.slice none 0 0) := by rw [blk_cell HB5c.out]; rfl
    have a13 : wc.cell? ⟨(w.heap.size + 1 + 1), 13, none⟩ = some (.slice none 0 0) := by rw [blk_cell HB5c.out]; rfl
    have a14 : wc.cell? ⟨(w.heap.size + 1 + 1), 14, none⟩ = some (.int .i64 0) := by rw [blk_cell HB5c.out]; rfl
    have z0 := blk_frozen HB5c.out 0
    have z1 := blk_frozen HB5c.out 1
    have z2 := blk_frozen HB5c.out 2
    have z3 := blk_frozen HB5c.out 3
    have z4 := blk_frozen HB5c.out 4
    have z5 := blk_frozen HB5c.out 5
    have z6 := blk_frozen HB5c.out 6
    have z7 := blk_frozen HB5c.out 7
    have z8 := blk_frozen HB5c.out 8
    have z9 := blk_frozen HB5c.out 9
    have z10 := blk_frozen HB5c.out 10
    have z11 := blk_frozen HB5c.out 11
    have z12 := blk_frozen HB5c.out 12
    have z13 := blk_frozen HB5c.out 13
    have z14 := blk_frozen HB5c.out 14
    clear hls hll hlk hlq hq
    go_upto_region 20 with (first
      | (go_at_call 95; refine (HLD.out _ HGC.out).mono ?_; rintro e w7 ⟨mA, mc, gA, gc, hA, hc, f7, rfl, ho7, hn7, hg7⟩; have HO7 := hide ho7.vb; have HG7 := hide hg7; clear ho7 hn7 hg7 c0 c1 c2 c3)
      | (go_at_call 94; refine (HAT.out w7 mA mc gA gc hA hc HO7.out).mono ?_; rintro e w8 ⟨eA, ec, eB, ed, eC, ee, f8, rfl, ho8, hn8, hg8⟩; have HO8 := hide ho8; have HN8 := hide hn8; have HG8 := hide (gb_trans HG7.out hg8 (.inl rfl)); clear ho8 hn8 hg8 a0 a1 a2 a3 a4 a5 a6 a7 a8 a9 a10 a11 a12 a13 a14 z0 z1 z2 z3 z4 z5 z6 z7 z8 z9 z10 z11 z12 z13 z14; have hb8 := blk_keep HB5c.out HG8.out (by simp); have HB8 := hide hb8; have a0 : w8.cell? ⟨(w.heap.size + 1 + 1), 0, none⟩ = some (.int .i64 4) := (by { rw [blk_cell hb8]; rfl }); have a1 : w8.cell? ⟨(w.heap.size + 1 + 1), 1, none⟩ = some (.int .i64 2) := (by { rw [blk_cell hb8]; rfl }); have a2 : w8.cell? ⟨(w.heap.size + 1 + 1), 2, none⟩ = some (.int .i64 (l.length : Int)) := (by { rw [blk_cell hb8]; rfl }); have a3 : w8.cell? ⟨(w.heap.size + 1 + 1), 3, none⟩ = some (.int .i64 (nnI l : Int)) := (by { rw [blk_cell hb8]; rfl }); have a4 : w8.cell? ⟨(w.heap.size + 1 + 1), 4, none⟩ = some (.int .i64 0) := (by { rw [blk_cell hb8]; rfl }); have a5 : w8.cell? ⟨(w.heap.size + 1 + 1), 5, none⟩ = some (.int .i64 0) := (by { rw [blk_cell hb8]; rfl }); have a6 : w8.cell? ⟨(w.heap.size + 1 + 1), 6, none⟩ = some (.int .i64 0) := (by { rw [blk_cell hb8]; rfl }); have a7 : w8.cell? ⟨(w.heap.size + 1 + 1), 7, none⟩ = some (.slice none 0 0) := (by { rw [blk_cell hb8]; rfl }); have a8 : w8.cell? ⟨(w.heap.size + 1 + 1), 8, none⟩ = some (.slice none 0 0) := (by { rw [blk_cell hb8]; rfl }); have a9 : w8.cell? ⟨(w.heap.size + 1 + 1), 9, none⟩ = some (.slice none 0 0) := (by { rw [blk_cell hb8]; rfl }); have a10 : w8.cell? ⟨(w.heap.size + 1 + 1), 10, none⟩ = some (.int .i64 0) := (by { rw [blk_cell hb8]; rfl }); have a11 : w8.cell? ⟨(w.heap.size + 1 + 1), 11, none⟩ = some (.slice none 0 0) := (by { rw [blk_cell hb8]; rfl }); have a12 : w8.cell? ⟨(w.heap.size + 1 + 1), 12, none⟩ = some (.slice none 0 0) := (by { rw [blk_cell hb8]; rfl }); have a13 : w8.cell? ⟨(w.heap.size + 1 + 1), 13, none⟩ = some (.slice none 0 0) := (by { rw [blk_cell hb8]; rfl }); have a14 : w8.cell? ⟨(w.heap.size + 1 + 1), 14, none⟩ = some (.int .i64 0) := (by { rw [blk_cell hb8]; rfl }); have z0 := blk_frozen hb8 0; have z1 := blk_frozen hb8 1; have z2 := blk_frozen hb8 2; have z3 := blk_frozen hb8 3; have z4 := blk_frozen hb8 4; have z5 := blk_frozen hb8 5; have z6 := blk_frozen hb8 6; have z7 := blk_frozen hb8 7; have z8 := blk_frozen hb8 8; have z9 := blk_frozen hb8 9; have z10 := blk_frozen hb8 10; have z11 := blk_frozen hb8 11; have z12 := blk_frozen hb8 12; have z13 := blk_frozen hb8 13; have z14 := blk_frozen hb8 14; clear hb8))
    obtain ⟨w9, hw9⟩ : ∃ w9, w9 = ((((w8.setCell ⟨w.heap.size + 1 + 1, 6, none⟩ (.int .i64 (-2))).setCell ⟨w.heap.size + 1 + 1, 7, none⟩ (.slice eA 1 ec)).setCell ⟨w.heap.size + 1 + 1, 8, none⟩ (.slice eB 0 ed)).setCell ⟨w.heap.size + 1 + 1, 9, none⟩ (.slice eC 0 ee)) := ⟨_, rfl⟩
    rw [← hw9]
    have hb9 : w9.heap[(w.heap.size + 1 + 1)]? = some (.cells #[.int .i64 4, .int .i64 2, .int .i64 (l.length : Int), .int .i64 (nnI l : Int), .int .i64 0, .int .i64 0, .int .i64 (-2), .slice eA 1 ec, .slice eB 0 ed, .slice eC 0 ee, .int .i64 0, .slice none 0 0, .slice none 0 0, .slice none 0 0, .int .i64 0] 54 (0, 0)) := by rw [hw9]; exact blk_set (blk_set (blk_set (blk_set HB8.out 6 _) 7 _) 8 _) 9 _
    have hg9 : w8.grownBy w9 (some (w.heap.size + 1 + 1)) := by rw [hw9]; exact gb_setCell (gb_setCell (gb_setCell (gb_setCell (gb_refl w8 (some (w.heap.size + 1 + 1))) (.inl rfl) _) (.inl rfl) _) (.inl rfl) _) (.inl rfl) _
    have HG9 := hide hg9
    have HB9 := hide hb9
    have hbz9 : w9.heap[(w.heap.size + 1)]? = some (.cells #[.int .i64 0, .int .i64 0, .int .i64 0, .int .i64 0, .int .i64 0, .int .i64 0, .int .i64 0, .slice none 0 0, .slice none 0 0, .slice none 0 0, .int .i64 0, .slice none 0 0, .slice none 0 0, .slice none 0 0, .int .i64 0] 54 (0, 0)) := blk_keep (blk_keep HBZc.out HG8.out (by simp)) hg9 (by intro e; injection e with e; omega)
    have HBZ9 := hide hbz9
    clear hw9 hg9 a0 a1 a2 a3 a4 a5 a6 a7 a8 a9 a10 a11 a12 a13 a14 z0 z1 z2 z3 z4 z5 z6 z7 z8 z9 z10 z11 z12 z13 z14
    have a0 : w9.cell? ⟨(w.heap.size + 1 + 1), 0, none⟩ = some (.int .i64 4) := by rw [blk_cell hb9]; rfl
    have a1 : w9.cell? ⟨(w.heap.size + 1 + 1), 1, none⟩ = some (.int .i64 2) := by rw [blk_cell hb9]; rfl
    have a2 : w9.cell? ⟨(w.heap.size + 1 + 1), 2, none⟩ = some (.int .i64 (l.length : Int)) := by rw [blk_cell hb9]; rfl
    have a3 : w9.cell? ⟨(w.heap.size + 1 + 1), 3, none⟩ = some (.int .i64 (nnI l : Int)) := by rw [blk_cell hb9]; rfl
    have a4 : w9.cell? ⟨(w.heap.size + 1 + 1), 4, none⟩ = some (.int .i64 0) := by rw [blk_cell hb9]; rfl
    have a5 : w9.cell? ⟨(w.heap.size + 1 + 1), 5, none⟩ = some (.int .i64 0) := by rw [blk_cell hb9]; rfl
    have a6 : w9.cell? ⟨(w.heap.size + 1 + 1), 6, none⟩ = some (.int .i64 (-2)) := by rw [blk_cell hb9]; rfl
    have a7 : w9.cell? ⟨(w.heap.size + 1 + 1), 7, none⟩ = some (.slice eA 1 ec) := by rw [blk_cell hb9]; rfl
    have a8 : w9.cell? ⟨(w.heap.size + 1 + 1), 8, none⟩ = some (.slice eB 0 ed) := by rw [blk_cell hb9]; rfl
    have a9 : w9.cell? ⟨(w.heap.size + 1 + 1), 9, none⟩ = some (.slice eC 0 ee) := by rw [blk_cell hb9]; rfl
    have a10 : w9.cell? ⟨(w.heap.size + 1 + 1), 10, none⟩ = some (.int .i64 0) := by rw [blk_cell hb9]; rfl
    have a11 : w9.cell? ⟨(w.heap.size + 1 + 1), 11, none⟩ = some (.slice none 0 0) := by rw [blk_cell hb9]; rfl
    have a12 : w9.cell? ⟨(w.heap.size + 1 + 1), 12, none⟩ = some (.slice none 0 0) := by rw [blk_cell hb9]; rfl
    have a13 : w9.cell? ⟨(w.heap.size + 1 + 1), 13, none⟩ = some (.slice none 0 0) := by rw [blk_cell hb9]; rfl
    have a14 : w9.cell? ⟨(w.heap.size + 1 + 1), 14, none⟩ = some (.int .i64 0) := by rw [blk_cell hb9]; rfl
    have y0 : w9.cell? ⟨(w.heap.size + 1), 0, none⟩ = some (.int .i64 0) := by rw [blk_cell hbz9]; rfl
    have y1 : w9.cell? ⟨(w.heap.size + 1), 1, none⟩ = some (.int .i64 0) := by rw [blk_cell hbz9]; rfl
    have y2 : w9.cell? ⟨(w.heap.size + 1), 2, none⟩ = some (.int .i64 0) := by rw [blk_cell hbz9]; rfl
    have y3 : w9.cell? ⟨(w.heap.size + 1), 3, none⟩ = some (.int .i64 0) := by rw [blk_cell hbz9]; rfl
    have y4 : w9.cell? ⟨(w.heap.size + 1), 4, none⟩ = some (.int .i64 0) := by rw [blk_cell hbz9]; rfl
    have y5 : w9.cell? ⟨(w.heap.size + 1), 5, none⟩ = some (.int .i64 0) := by rw [blk_cell hbz9]; rfl
    have y6 : w9.cell? ⟨(w.heap.size + 1), 6, none⟩ = some (.int .i64 0) := by rw [blk_cell hbz9]; rfl
    have y7 : w9.cell? ⟨(w.heap.size + 1), 7, none⟩ = some (.slice none 0 0) := by rw [blk_cell hbz9]; rfl
    have y8 : w9.cell? ⟨(w.heap.size + 1), 8, none⟩ = some (.slice none 0 0) := by rw [blk_cell hbz9]; rfl
    have y9 : w9.cell? ⟨(w.heap.size + 1), 9, none⟩ = some (.slice none 0 0) := by rw [blk_cell hbz9]; rfl
    have y10 : w9.cell? ⟨(w.heap.size + 1), 10, none⟩ = some (.int .i64 0) := by rw [blk_cell hbz9]; rfl
    have y11 : w9.cell? ⟨(w.heap.size + 1), 11, none⟩ = some (.slice none 0 0) := by rw [blk_cell hbz9]; rfl
    have y12 : w9.cell? ⟨(w.heap.size + 1), 12, none⟩ = some (.slice none 0 0) := by rw [blk_cell hbz9]; rfl
    have y13 : w9.cell? ⟨(w.heap.size + 1), 13, none⟩ = some (.slice none 0 0) := by rw [blk_cell hbz9]; rfl
    have y14 : w9.cell? ⟨(w.heap.size + 1), 14, none⟩ = some (.int .i64 0) := by rw [blk_cell hbz9]; rfl
    have x0 := blk_frozen hbz9 0
    have x1 := blk_frozen hbz9 1
    have x2 := blk_frozen hbz9 2
    have x3 := blk_frozen hbz9 3
    have x4 := blk_frozen hbz9 4
    have x5 := blk_frozen hbz9 5
    have x6 := blk_frozen hbz9 6
    have x7 := blk_frozen hbz9 7
    have x8 := blk_frozen hbz9 8
    have x9 := blk_frozen hbz9 9
    have x10 := blk_frozen hbz9 10
    have x11 := blk_frozen hbz9 11
    have x12 := blk_frozen hbz9 12
    have x13 := blk_frozen hbz9 13
    have x14 := blk_frozen hbz9 14
    clear hb9 hbz9
    go_wp2_with fail
    obtain ⟨wF, hwF⟩ : ∃ wF, wF = (((((((((((((((w9.setCell ⟨w.heap.size + 1, 0, none⟩ (.int .i64 4)).setCell ⟨w.heap.size + 1, 1, none⟩ (.int .i64 2)).setCell ⟨w.heap.size + 1, 2, none⟩ (.int .i64 (l.length : Int))).setCell ⟨w.heap.size + 1, 3, none⟩ (.int .i64 (nnI l : Int))).setCell ⟨w.heap.size + 1, 4, none⟩ (.int .i64 0)).setCell ⟨w.heap.size + 1, 5, none⟩ (.int .i64 0)).setCell ⟨w.heap.size + 1, 6, none⟩ (.int .i64 (-2))).setCell ⟨w.heap.size + 1, 7, none⟩ (.slice eA 1 ec)).setCell ⟨w.heap.size + 1, 8, none⟩ (.slice eB 0 ed)).setCell ⟨w.heap.size + 1, 9, none⟩ (.slice eC 0 ee)).setCell ⟨w.heap.size + 1, 10, none⟩ (.int .i64 0)).setCell ⟨w.heap.size + 1, 11, none⟩ (.slice none 0 0)).setCell ⟨w.heap.size + 1, 12, none⟩ (.slice none 0 0)).setCell ⟨w.heap.size + 1, 13, none⟩ (.slice none 0 0)).setCell ⟨w.heap.size + 1, 14, none⟩ (.int .i64 0)) := ⟨_, rfl⟩
    rw [← hwF]
    have hfin : wF.heap[(w.heap.size + 1)]? = some (.cells #[.int .i64 4, .int .i64 2, .int .i64 (l.length : Int), .int .i64 (nnI l : Int), .int .i64 0, .int .i64 0, .int .i64 (-2), .slice eA 1 ec, .slice eB 0 ed, .slice eC 0 ee, .int .i64 0, .slice none 0 0, .slice none 0 0, .slice none 0 0, .int .i64 0] 54 (0, 0)) := by
      rw [hwF]
      have h := (blk_set (blk_set (blk_set (blk_set (blk_set (blk_set (blk_set (blk_set (blk_set (blk_set (blk_set (blk_set (blk_set (blk_set (blk_set HBZ9.out 0 (.int .i64 4)) 1 (.int .i64 2)) 2 (.int .i64 (l.length : Int))) 3 (.int .i64 (nnI l : Int))) 4 (.int .i64 0)) 5 (.int .i64 0)) 6 (.int .i64 (-2))) 7 (.slice eA 1 ec)) 8 (.slice eB 0 ed)) 9 (.slice eC 0 ee)) 10 (.int .i64 0)) 11 (.slice none 0 0)) 12 (.slice none 0 0)) 13 (.slice none 0 0)) 14 (.int .i64 0))
      simp only [List.setIfInBounds_toArray, List.set_cons_succ, List.set_cons_zero] at h
      exact h
    have hgf : w9.grownBy wF (some (w.heap.size + 1)) := by rw [hwF]; exact gb_setCell (gb_setCell (gb_setCell (gb_setCell (gb_setCell (gb_setCell (gb_setCell (gb_setCell (gb_setCell (gb_setCell (gb_setCell (gb_setCell (gb_setCell (gb_setCell (gb_setCell (gb_refl w9 (some (w.heap.size + 1))) (.inl rfl) _) (.inl rfl) _) (.inl rfl) _) (.inl rfl) _) (.inl rfl) _) (.inl rfl) _) (.inl rfl) _) (.inl rfl) _) (.inl rfl) _) (.inl rfl) _) (.inl rfl) _) (.inl rfl) _) (.inl rfl) _) (.inl rfl) _) (.inl rfl) _
    clear hwF
    have m0 : wF.cell? ⟨w.heap.size + 1, 0, none⟩ = some (.int .i64 4) := by rw [blk_cell hfin]; rfl
    have m1 : wF.cell? ⟨w.heap.size + 1, 1, none⟩ = some (.int .i64 2) := by rw [blk_cell hfin]; rfl
    have m2 : wF.cell? ⟨w.heap.size + 1, 2, none⟩ = some (.int .i64 (l.length : Int)) := by rw [blk_cell hfin]; rfl
    have m3 : wF.cell? ⟨w.heap.size + 1, 3, none⟩ = some (.int .i64 (nnI l : Int)) := by rw [blk_cell hfin]; rfl
    have m4 : wF.cell? ⟨w.heap.size + 1, 4, none⟩ = some (.int .i64 0) := by rw [blk_cell hfin]; rfl
    have m5 : wF.cell? ⟨w.heap.size + 1, 5, none⟩ = some (.int .i64 0) := by rw [blk_cell hfin]; rfl
    have m6 : wF.cell? ⟨w.heap.size + 1, 6, none⟩ = some (.int .i64 (-2)) := by rw [blk_cell hfin]; rfl
    have m7 : wF.cell? ⟨w.heap.size + 1, 7, none⟩ = some (.slice eA 1 ec) := by rw [blk_cell hfin]; rfl
    have m8 : wF.cell? ⟨w.heap.size + 1, 8, none⟩ = some (.slice eB 0 ed) := by rw [blk_cell hfin]; rfl
    have m9 : wF.cell? ⟨w.heap.size + 1, 9, none⟩ = some (.slice eC 0 ee) := by rw [blk_cell hfin]; rfl
    have m10 : wF.cell? ⟨w.heap.size + 1, 10, none⟩ = some (.int .i64 0) := by rw [blk_cell hfin]; rfl
    have m11 : wF.cell? ⟨w.heap.size + 1, 11, none⟩ = some (.slice none 0 0) := by rw [blk_cell hfin]; rfl
    have m12 : wF.cell? ⟨w.heap.size + 1, 12, none⟩ = some (.slice none 0 0) := by rw [blk_cell hfin]; rfl
    have m13 : wF.cell? ⟨w.heap.size + 1, 13, none⟩ = some (.slice none 0 0) := by rw [blk_cell hfin]; rfl
    have m14 : wF.cell? ⟨w.heap.size + 1, 14, none⟩ = some (.int .i64 0) := by rw [blk_cell hfin]; rfl
    refine bodyPost_ret (v := .agg #[.int .i64 4, .int .i64 2, .int .i64 (l.length : Int), .int .i64 (nnI l : Int), .int .i64 0, .int .i64 0, .int .i64 (-2), .slice eA 1 ec, .slice eB 0 ed, .slice eC 0 ee, .int .i64 0, .slice none 0 0, .slice none 0 0, .slice none 0 0, .int .i64 0]) (by simp [results, Tryz.results62, go_sem, m0, m1, m2, m3, m4, m5, m6, m7, m8, m9, m10, m11, m12, m13, m14]) rfl ?_
    have hk8 : ∀ b, b < w8.heap.size → b ≠ (w.heap.size + 1 + 1) → b ≠ (w.heap.size + 1) → wF.heap[b]? = w8.heap[b]? := fun b hb h1 h2 => (hgf.block b (Nat.lt_of_lt_of_le hb HG9.out.size) (by intro e; injection e with e; exact h2 e)).trans (HG9.out.block b hb (by intro e; injection e with e; exact h1 e))
    have hv8 := VOw.keep _ _ _ HO8.out (fun b hb => hk8 b (HN8.out.2 b hb).2 (by have := (HN8.out.2 b hb).1; have := HG7.out.size; have := HSZc.out; omega) (by have := (HN8.out.2 b hb).1; have := HG7.out.size; have := HSZc.out; omega))
    rw [← HQ.out]
    exact ⟨eA, ec, eB, ed, eC, ee, f8, rfl, hv8, fun b hb => by have := (HN8.out.2 b hb).1; have := HG7.out.size; have := HGC.out.size; omega, gb_trans (gb_trans (gb_trans HGC.out HG8.out (.inl rfl)) HG9.out (.inr (.inr ⟨_, rfl, by omega⟩))) hgf (.inr (.inr ⟨_, rfl, by omega⟩))⟩
set_option maxHeartbeats 4000000 in
set_option maxRecDepth 100000 in
theorem piece5_some (l : List Int) (hI : ∀ k ∈ l, I64 k) (hl6 : l.length ≤ 400000) (hs : 0 < nnI l) (w : World) (B : Nat) (nA : Option Addr) (nc : Nat) (sA : Option Addr) (sc : Nat) (lA : Option Addr) (lc : Nat) (ht : (Vl.mk 2 l [] []).tot ≤ 500000) (hB : B ≤ w.heap.size) (h : VB w B (.mk 2 l [] []) nA nc sA sc lA lc) : Calls Tryz.prog 62 #[.int .i64 5, .agg #[.int .i64 2, .slice nA l.length nc, .slice sA 0 sc, .slice lA 0 lc]] w (AccP 5 2 l.length (nnI l) 0 (.mk (-2) [pickI l (-9223372036854775808) (bestN true l l.length)] [] []) w) := by
  have hl : l.length ≤ 1100000 := by omega
  obtain ⟨wa, hwa⟩ : ∃ wa, wa = ((w.alloc (.cells #[.int .i64 2, .slice nA l.length nc, .slice sA 0 sc, .slice lA 0 lc] 26)).alloc (.cells #[.int .i64 0, .int .i64 0, .int .i64 0, .int .i64 0, .int .i64 0, .int .i64 0, .int .i64 0, .slice none 0 0, .slice none 0 0, .slice none 0 0, .int .i64 0, .slice none 0 0, .slice none 0 0, .slice none 0 0, .int .i64 0] 54)).alloc (.cells #[.int .i64 5, .int .i64 (-1), .int .i64 0, .int .i64 0, .int .i64 0, .int .i64 0, .int .i64 0, .slice none 0 0, .slice none 0 0, .slice none 0 0, .int .i64 0, .slice none 0 0, .slice none 0 0, .slice none 0 0, .int .i64 0] 54) := ⟨_, rfl⟩
  have bx : wa.heap[w.heap.size]? = some (.cells #[.int .i64 2, .slice nA l.length nc, .slice sA 0 sc, .slice lA 0 lc] 26 (0, 0)) := by rw [hwa]; exact (Below.heap_alloc _ _ _ (by rw [World.size_alloc, World.size_alloc]; omega)).trans ((Below.heap_alloc _ _ _ (by rw [World.size_alloc]; omega)).trans (heap_alloc_new w _))
  have bz : wa.heap[(w.heap.size + 1)]? = some (.cells #[.int .i64 0, .int .i64 0, .int .i64 0, .int .i64 0, .int .i64 0, .int .i64 0, .int .i64 0, .slice none 0 0, .slice none 0 0, .slice none 0 0, .int .i64 0, .slice none 0 0, .slice none 0 0, .slice none 0 0, .int .i64 0] 54 (0, 0)) := by rw [hwa]; refine (Below.heap_alloc _ _ _ (by rw [World.size_alloc, World.size_alloc]; omega)).trans ?_; have := heap_alloc_new (w.alloc (.cells #[.int .i64 2, .slice nA l.length nc, .slice sA 0 sc, .slice lA 0 lc] 26)) (.cells #[.int .i64 0, .int .i64 0, .int .i64 0, .int .i64 0, .int .i64 0, .int .i64 0, .int .i64 0, .slice none 0 0, .slice none 0 0, .slice none 0 0, .int .i64 0, .slice none 0 0, .slice none 0 0, .slice none 0 0, .int .i64 0] 54); rwa [World.size_alloc] at this
  have b5 : wa.heap[(w.heap.size + 1 + 1)]? = some (.cells #[.int .i64 5, .int .i64 (-1), .int .i64 0, .int .i64 0, .int .i64 0, .int .i64 0, .int .i64 0, .slice none 0 0, .slice none 0 0, .slice none 0 0, .int .i64 0, .slice none 0 0, .slice none 0 0, .slice none 0 0, .int .i64 0] 54 (0, 0)) := by rw [hwa]; have := heap_alloc_new ((w.alloc (.cells #[.int .i64 2, .slice nA l.length nc, .slice sA 0 sc, .slice lA 0 lc] 26)).alloc (.cells #[.int .i64 0, .int .i64 0, .int .i64 0, .int .i64 0, .int .i64 0, .int .i64 0, .int .i64 0, .slice none 0 0, .slice none 0 0, .slice none 0 0, .int .i64 0, .slice none 0 0, .slice none 0 0, .slice none 0 0, .int .i64 0] 54)) (.cells #[.int .i64 5, .int .i64 (-1), .int .i64 0, .int .i64 0, .int .i64 0, .int .i64 0, .int .i64 0, .slice none 0 0, .slice none 0 0, .slice none 0 0, .int .i64 0, .slice none 0 0, .slice none 0 0, .slice none 0 0, .int .i64 0] 54); rwa [World.size_alloc, World.size_alloc] at this
  have HBX := hide bx
  have HBZ := hide bz
  have HB5 := hide b5
  have HSZ := hide (show wa.heap.size = w.heap.size + 3 by rw [hwa]; simp)
  have HG := hide (show w.grownBy wa none by rw [hwa]; exact gb_alloc (gb_alloc (gb_alloc (gb_refl w none) _) _) _)
  have HWE := hide hwa
  have HCN : Hid (∀ w2, w.grownBy w2 none → Calls Tryz.prog 35 #[.agg #[.int .i64 2, .slice nA l.length nc, .slice sA 0 sc, .slice lA 0 lc]] w2 fun e w' => e = .returned (.int .i64 (l.length : Nat)) ∧ w2.grownBy w' none) := hide (fun w2 hg => count_d (Vl.mk 2 l [] []).depth (Vl.mk 2 l [] []) w2 B nA nc sA sc lA lc (Nat.le_refl _) (by omega) (Nat.le_trans hB hg.size) (h.gb hg hB))
  have HSM := hide (fun w2 (hg : w.grownBy w2 none) => some_int l w2 B nA nc sA sc lA lc (by omega) (Nat.le_trans hB hg.size) (h.gb hg hB))
  have HLD := hide (fun w2 (hg : w.grownBy w2 none) => leadDn_int l hI (by omega) w2 B nA nc sA sc lA lc (by omega) (Nat.le_trans hB hg.size) (h.gb hg hB))
  have HTK := hide (fun w2 => takes_int 5 (by decide) (by decide) w2)
  have HL := hide hl
  have HL6 := hide hl6
  have HSP := hide hs
  have hnn := nnI_le l
  have HNN := hide hnn
  obtain ⟨c0, c1, c2, c3⟩ : C4 wa w.heap.size 0 (.int .i64 2) (.slice nA l.length nc) (.slice sA 0 sc) (.slice lA 0 lc) := (by have h := blk_keep HBX.out (gb_refl wa none) (by simp); exact ⟨by rw [blk_cell h]; rfl, by rw [blk_cell h]; rfl, by rw [blk_cell h]; rfl, by rw [blk_cell h]; rfl⟩)
  clear bx bz b5 hwa h hB ht hl hI hl6 hs hnn
  go_enter Tryz.func62, Tryz.ntmps62
  go_upto_region 2 with fail
  rw [← HWE.out]
  go_upto_region 6 with (first
    | (go_at_call 38; refine (HTK.out _).mono ?_; rintro e w1 ⟨rfl, rfl⟩)
    | (go_at_call 35; refine (HCN.out _ HG.out).mono ?_; rintro e w2 ⟨rfl, hg2⟩; have HG2 := hide hg2; clear hg2 c0 c1 c2 c3))
  obtain ⟨c0, c1, c2, c3⟩ : C4 w2 w.heap.size 0 (.int .i64 2) (.slice nA l.length nc) (.slice sA 0 sc) (.slice lA 0 lc) := (by have h := blk_keep HBX.out HG2.out (by simp); exact ⟨by rw [blk_cell h]; rfl, by rw [blk_cell h]; rfl, by rw [blk_cell h]; rfl, by rw [blk_cell h]; rfl⟩)
  have hb2 := blk_keep HB5.out HG2.out (by simp)
  have a0 : w2.cell? ⟨(w.heap.size + 1 + 1), 0, none⟩ = some (.int .i64 5) := by rw [blk_cell hb2]; rfl
  have a1 : w2.cell? ⟨(w.heap.size + 1 + 1), 1, none⟩ = some (.int .i64 (-1)) := by rw [blk_cell hb2]; rfl
  have a2 : w2.cell? ⟨(w.heap.size + 1 + 1), 2, none⟩ = some (.int .i64 0) := by rw [blk_cell hb2]; rfl
  have a3 : w2.cell? ⟨(w.heap.size + 1 + 1), 3, none⟩ = some (.int .i64 0) := by rw [blk_cell hb2]; rfl
  have a4 : w2.cell? ⟨(w.heap.size + 1 + 1), 4, none⟩ = some (.int .i64 0) := by rw [blk_cell hb2]; rfl
  have a5 : w2.cell? ⟨(w.heap.size + 1 + 1), 5, none⟩ = some (.int .i64 0) := by rw [blk_cell hb2]; rfl
  have a6 : w2.cell? ⟨(w.heap.size + 1 + 1), 6, none⟩ = some (.int .i64 0) := by rw [blk_cell hb2]; rfl
  have a7 : w2.cell? ⟨(w.heap.size + 1 + 1), 7, none⟩ = some (.slice none 0 0) := by rw [blk_cell hb2]; rfl
  have a8 : w2.cell? ⟨(w.heap.size + 1 + 1), 8, none⟩ = some (.slice none 0 0) := by rw [blk_cell hb2]; rfl
  have a9 : w2.cell? ⟨(w.heap.size + 1 + 1), 9, none⟩ = some (.slice none 0 0) := by rw [blk_cell hb2]; rfl
  have a10 : w2.cell? ⟨(w.heap.size + 1 + 1), 10, none⟩ = some (.int .i64 0) := by rw [blk_cell hb2]; rfl
  have a11 : w2.cell? ⟨(w.heap.size + 1 + 1), 11, none⟩ = some (.slice none 0 0) := by rw [blk_cell hb2]; rfl
  have a12 : w2.cell? ⟨(w.heap.size + 1 + 1), 12, none⟩ = some (.slice none 0 0) := by rw [blk_cell hb2]; rfl
  have a13 : w2.cell? ⟨(w.heap.size + 1 + 1), 13, none⟩ = some (.slice none 0 0) := by rw [blk_cell hb2]; rfl
  have a14 : w2.cell? ⟨(w.heap.size + 1 + 1), 14, none⟩ = some (.int .i64 0) := by rw [blk_cell hb2]; rfl
  have z0 := blk_frozen hb2 0
  have z1 := blk_frozen hb2 1
  have z2 := blk_frozen hb2 2
  have z3 := blk_frozen hb2 3
  have z4 := blk_frozen hb2 4
  have z5 := blk_frozen hb2 5
  have z6 := blk_frozen hb2 6
  have z7 := blk_frozen hb2 7
  have z8 := blk_frozen hb2 8
  have z9 := blk_frozen hb2 9
  have z10 := blk_frozen hb2 10
  have z11 := blk_frozen hb2 11
  have z12 := blk_frozen hb2 12
  have z13 := blk_frozen hb2 13
  have z14 := blk_frozen hb2 14
  clear hb2
  go_cut [] (fun wc => (wc.heap[(w.heap.size + 1 + 1)]? = some (.cells #[.int .i64 5, .int .i64 2, .int .i64 (l.length : Int), .int .i64 (nnI l : Int), .int .i64 0, .int .i64 0, .int .i64 0, .slice none 0 0, .slice none 0 0, .slice none 0 0, .int .i64 0, .slice none 0 0, .slice none 0 0, .slice none 0 0, .int .i64 0] 54 (0, 0)) ∧ wc.heap[w.heap.size + 1]? = some (.cells #[.int .i64 0, .int .i64 0, .int .i64 0, .int .i64 0, .int .i64 0, .int .i64 0, .int .i64 0, .slice none 0 0, .slice none 0 0, .slice none 0 0, .int .i64 0, .slice none 0 0, .slice none 0 0, .slice none 0 0, .int .i64 0] 54 (0, 0)) ∧ wc.heap[w.heap.size]? = some (.cells #[.int .i64 2, .slice nA l.length nc, .slice sA 0 sc, .slice lA 0 lc] 26 (0, 0))) ∧ w.grownBy wc none ∧ w.heap.size + 3 ≤ wc.heap.size)
  case first =>
    go_region_law ((go_simp; go_at_call 93; refine (HSM.out w2.drew (gb_trans HG.out (gb_drew HG2.out) (.inl rfl))).mono ?_; rintro e w3 ⟨rfl, hg3⟩; have HG3 := hide (show w2.grownBy w3 none from ⟨hg3.os, hg3.tape, hg3.output, hg3.size, hg3.block⟩); clear hg3 c0 c1 c2 c3 a0 a1 a2 a3 a4 a5 a6 a7 a8 a9 a10 a11 a12 a13 a14 z0 z1 z2 z3 z4 z5 z6 z7 z8 z9 z10 z11 z12 z13 z14; have hb3 := blk_keep HB5.out (gb_trans HG2.out HG3.out (.inl rfl)) (by simp); have HB3 := hide hb3; obtain ⟨c0, c1, c2, c3⟩ : C4 w3 w.heap.size 0 (.int .i64 2) (.slice nA l.length nc) (.slice sA 0 sc) (.slice lA 0 lc) := (by have h := blk_keep HBX.out (gb_trans HG2.out HG3.out (.inl rfl)) (by simp); exact ⟨by rw [blk_cell h]; rfl, by rw [blk_cell h]; rfl, by rw [blk_cell h]; rfl, by rw [blk_cell h]; rfl⟩); have a0 : w3.cell? ⟨(w.heap.size + 1 + 1), 0, none⟩ = some (.int .i64 5) := (by { rw [blk_cell hb3]; rfl }); have a1 : w3.cell? ⟨(w.heap.size + 1 + 1), 1, none⟩ = some (.int .i64 (-1)) := (by { rw [blk_cell hb3]; rfl }); have a2 : w3.cell? ⟨(w.heap.size + 1 + 1), 2, none⟩ = some (.int .i64 0) := (by { rw [blk_cell hb3]; rfl }); have a3 : w3.cell? ⟨(w.heap.size + 1 + 1), 3, none⟩ = some (.int .i64 0) := (by { rw [blk_cell hb3]; rfl }); have a4 : w3.cell? ⟨(w.heap.size + 1 + 1), 4, none⟩ = some (.int .i64 0) := (by { rw [blk_cell hb3]; rfl }); have a5 : w3.cell? ⟨(w.heap.size + 1 + 1), 5, none⟩ = some (.int .i64 0) := (by { rw [blk_cell hb3]; rfl }); have a6 : w3.cell? ⟨(w.heap.size + 1 + 1), 6, none⟩ = some (.int .i64 0) := (by { rw [blk_cell hb3]; rfl }); have a7 : w3.cell? ⟨(w.heap.size + 1 + 1), 7, none⟩ = some (.slice none 0 0) := (by { rw [blk_cell hb3]; rfl }); have a8 : w3.cell? ⟨(w.heap.size + 1 + 1), 8, none⟩ = some (.slice none 0 0) := (by { rw [blk_cell hb3]; rfl }); have a9 : w3.cell? ⟨(w.heap.size + 1 + 1), 9, none⟩ = some (.slice none 0 0) := (by { rw [blk_cell hb3]; rfl }); have a10 : w3.cell? ⟨(w.heap.size + 1 + 1), 10, none⟩ = some (.int .i64 0) := (by { rw [blk_cell hb3]; rfl }); have a11 : w3.cell? ⟨(w.heap.size + 1 + 1), 11, none⟩ = some (.slice none 0 0) := (by { rw [blk_cell hb3]; rfl }); have a12 : w3.cell? ⟨(w.heap.size + 1 + 1), 12, none⟩ = some (.slice none 0 0) := (by { rw [blk_cell hb3]; rfl }); have a13 : w3.cell? ⟨(w.heap.size + 1 + 1), 13, none⟩ = some (.slice none 0 0) := (by { rw [blk_cell hb3]; rfl }); have a14 : w3.cell? ⟨(w.heap.size + 1 + 1), 14, none⟩ = some (.int .i64 0) := (by { rw [blk_cell hb3]; rfl }); have z0 := blk_frozen hb3 0; have z1 := blk_frozen hb3 1; have z2 := blk_frozen hb3 2; have z3 := blk_frozen hb3 3; have z4 := blk_frozen hb3 4; have z5 := blk_frozen hb3 5; have z6 := blk_frozen hb3 6; have z7 := blk_frozen hb3 7; have z8 := blk_frozen hb3 8; have z9 := blk_frozen hb3 9; have z10 := blk_frozen hb3 10; have z11 := blk_frozen hb3 11; have z12 := blk_frozen hb3 12; have z13 := blk_frozen hb3 13; have z14 := blk_frozen hb3 14; clear hb3))
    all_goals
      go_wp2_with fail
      go_meet
      case rel =>
        have hg23 := gb_trans HG2.out HG3.out (.inl rfl)
        refine ⟨⟨blk_set (blk_set (blk_set HB3.out 1 _) 2 _) 3 _, ?_, ?_⟩, ?_, ?_⟩
        · exact (Below.heap_setCell _ ⟨w.heap.size + 1 + 1, 3, none⟩ _ _ (by simp)).trans ((Below.heap_setCell _ ⟨w.heap.size + 1 + 1, 2, none⟩ _ _ (by simp)).trans ((Below.heap_setCell _ ⟨w.heap.size + 1 + 1, 1, none⟩ _ _ (by simp)).trans (blk_keep HBZ.out hg23 (by simp))))
        · exact (Below.heap_setCell _ ⟨w.heap.size + 1 + 1, 3, none⟩ _ _ (show w.heap.size ≠ (w.heap.size + 1 + 1) by omega)).trans ((Below.heap_setCell _ ⟨w.heap.size + 1 + 1, 2, none⟩ _ _ (show w.heap.size ≠ (w.heap.size + 1 + 1) by omega)).trans ((Below.heap_setCell _ ⟨w.heap.size + 1 + 1, 1, none⟩ _ _ (show w.heap.size ≠ (w.heap.size + 1 + 1) by omega)).trans (blk_keep HBX.out hg23 (by simp))))
        · exact gb_setCell (gb_setCell (gb_setCell (gb_trans HG.out hg23 (.inl rfl)) (.inr (show w.heap.size ≤ w.heap.size + 1 + 1 by omega)) _) (.inr (show w.heap.size ≤ w.heap.size + 1 + 1 by omega)) _) (.inr (show w.heap.size ≤ w.heap.size + 1 + 1 by omega)) _
        · have := HSZ.out
          have := hg23.size
          simp [World.setCell]
          omega
  case rest =>
    obtain ⟨⟨hb5, hbz, hbx⟩, hgc, hsz⟩ := hcut
    have HB5c := hide hb5
    have HBZc := hide hbz
    have HBXc := hide hbx
    have HGC := hide hgc
    have HSZc := hide hsz
    clear HB5 HBZ HBX HG2 HG HSZ HWE hgc hsz hbx hbz hb5 a0 a1 a2 a3 a4 a5 a6 a7 a8 a9 a10 a11 a12 a13 a14 z0 z1 z2 z3 z4 z5 z6 z7 z8 z9 z10 z11 z12 z13 z14 c0 c1 c2 c3
    have hc1 : (0 : Int) < (nnI l : Int) := by have := HSP.out; omega
    have hcn : IntKind.i64.wrap ((l.length : Int) - 1) = ((l.length - 1 : Nat) : Int) := by have := HSP.out; have := HNN.out; have := HL.out; rw [IntKind.wrap_i64]; omega
    obtain ⟨ls, hls⟩ : ∃ ls, ls = ((List.range l.length).map fun i => bestN true l (i + 1)).map (pickI l (-9223372036854775808)) := ⟨_, rfl⟩
    have hll : ls.length = l.length := by rw [hls]; simp
    have hlk : l.length - 1 < ls.length := by have := HSP.out; have := HNN.out; omega
    obtain ⟨q, hq⟩ : ∃ q, q = pickI l (-9223372036854775808) (bestN true l l.length) := ⟨_, rfl⟩
    have hlq : ls[l.length - 1] = q := by
      have := HSP.out
      have := HNN.out
      subst hls
      simp only [List.getElem_map, List.getElem_range]
      rw [hq, show l.length - 1 + 1 = l.length by omega]
    rw [← hls] at HLD
    have HAT := hide (fun (w2 : World) (mA : Option Addr) (mc : Nat) (gA : Option Addr) (gc : Nat) (hA : Option Addr) (hc : Nat) (hv : VB w2 w2.heap.size (.mk 2 ls [] []) mA mc gA gc hA hc) => at_ints ls (l.length - 1) hlk q hlq w2 mA mc gA gc hA hc (by have := HL6.out; omega) hv)
    have HQ := hide hq
    obtain ⟨c0, c1, c2, c3⟩ : C4 wc w.heap.size 0 (.int .i64 2) (.slice nA l.length nc) (.slice sA 0 sc) (.slice lA 0 lc) := ⟨by rw [blk_cell HBXc.out]; rfl, by rw [blk_cell HBXc.out]; rfl, by rw [blk_cell HBXc.out]; rfl, by rw [blk_cell HBXc.out]; rfl⟩
    have a0 : wc.cell? ⟨(w.heap.size + 1 + 1), 0, none⟩ = some (.int .i64 5) := by rw [blk_cell HB5c.out]; rfl
    have a1 : wc.cell? ⟨(w.heap.size + 1 + 1), 1, none⟩ = some (.int .i64 2) := by rw [blk_cell HB5c.out]; rfl
    have a2 : wc.cell? ⟨(w.heap.size + 1 + 1), 2, none⟩ = some (.int .i64 (l.length : Int)) := by rw [blk_cell HB5c.out]; rfl
    have a3 : wc.cell? ⟨(w.heap.size + 1 + 1), 3, none⟩ = some (.int .i64 (nnI l : Int)) := by rw [blk_cell HB5c.out]; rfl
    have a4 : wc.cell? ⟨(w.heap.size + 1 + 1), 4, none⟩ = some (.int .i64 0) := by rw [blk_cell HB5c.out]; rfl
    have a5 : wc.cell? ⟨(w.heap.size + 1 + 1), 5, none⟩ = some (.int .i64 0) := by rw [blk_cell HB5c.out]; rfl
    have a6 : wc.cell? ⟨(w.heap.size + 1 + 1), 6, none⟩ = some (.int .i64 0) := by rw [blk_cell HB5c.out]; rfl
    have a7 : wc.cell? ⟨(w.heap.size + 1 + 1), 7, none⟩ = some (.slice none 0 0) := by rw [blk_cell HB5c.out]; rfl
    have a8 : wc.cell? ⟨(w.heap.size + 1 + 1), 8, none⟩ = some (.slice none 0 0) := by rw [blk_cell HB5c.out]; rfl
    have a9 : wc.cell? ⟨(w.heap.size + 1 + 1), 9, none⟩ = some (.slice none 0 0) := by rw [blk_cell HB5c.out]; rfl
    have a10 : wc.cell? ⟨(w.heap.size + 1 + 1), 10, none⟩ = some (.int .i64 0) := by rw [blk_cell HB5c.out]; rfl
    have a11 : wc.cell? ⟨(w.heap.size + 1 + 1), 11, none⟩ = some (.slice none 0 0) := by rw [blk_cell HB5c.out]; rfl
    have a12 : wc.cell? ⟨(w.heap.size + 1 + 1), 12, none⟩ = some (.slice none 0 0) := by rw [blk_cell HB5c.out]; rfl
    have a13 : wc.cell? ⟨(w.heap.size + 1 + 1), 13, none⟩ = some (.slice none 0 0) := by rw [blk_cell HB5c.out]; rfl
    have a14 : wc.cell? ⟨(w.heap.size + 1 + 1), 14, none⟩ = some (.int .i64 0) := by rw [blk_cell HB5c.out]; rfl
    have z0 := blk_frozen HB5c.out 0
    have z1 := blk_frozen HB5c.out 1
    have z2 := blk_frozen HB5c.out 2
    have z3 := blk_frozen HB5c.out 3
    have z4 := blk_frozen HB5c.out 4
    have z5 := blk_frozen HB5c.out 5
    have z6 := blk_frozen HB5c.out 6
    have z7 := blk_frozen HB5c.out 7
    have z8 := blk_frozen HB5c.out 8
    have z9 := blk_frozen HB5c.out 9
    have z10 := blk_frozen HB5c.out 10
    have z11 := blk_frozen HB5c.out 11
    have z12 := blk_frozen HB5c.out 12
    have z13 := blk_frozen HB5c.out 13
    have z14 := blk_frozen HB5c.out 14
    clear hls hll hlk hlq hq
    go_upto_region 20 with (first
      | (go_at_call 95; refine (HLD.out _ HGC.out).mono ?_; rintro e w7 ⟨mA, mc, gA, gc, hA, hc, f7, rfl, ho7, hn7, hg7⟩; have HO7 := hide ho7.vb; have HG7 := hide hg7; clear ho7 hn7 hg7 c0 c1 c2 c3)
      | (go_at_call 94; refine (HAT.out w7 mA mc gA gc hA hc HO7.out).mono ?_; rintro e w8 ⟨eA, ec, eB, ed, eC, ee, f8, rfl, ho8, hn8, hg8⟩; have HO8 := hide ho8; have HN8 := hide hn8; have HG8 := hide (gb_trans HG7.out hg8 (.inl rfl)); clear ho8 hn8 hg8 a0 a1 a2 a3 a4 a5 a6 a7 a8 a9 a10 a11 a12 a13 a14 z0 z1 z2 z3 z4 z5 z6 z7 z8 z9 z10 z11 z12 z13 z14; have hb8 := blk_keep HB5c.out HG8.out (by simp); have HB8 := hide hb8; have a0 : w8.cell? ⟨(w.heap.size + 1 + 1), 0, none⟩ = some (.int .i64 5) := (by { rw [blk_cell hb8]; rfl }); have a1 : w8.cell? ⟨(w.heap.size + 1 + 1), 1, none⟩ = some (.int .i64 2) := (by { rw [blk_cell hb8]; rfl }); have a2 : w8.cell? ⟨(w.heap.size + 1 + 1), 2, none⟩ = some (.int .i64 (l.length : Int)) := (by { rw [blk_cell hb8]; rfl }); have a3 : w8.cell? ⟨(w.heap.size + 1 + 1), 3, none⟩ = some (.int .i64 (nnI l : Int)) := (by { rw [blk_cell hb8]; rfl }); have a4 : w8.cell? ⟨(w.heap.size + 1 + 1), 4, none⟩ = some (.int .i64 0) := (by { rw [blk_cell hb8]; rfl }); have a5 : w8.cell? ⟨(w.heap.size + 1 + 1), 5, none⟩ = some (.int .i64 0) := (by { rw [blk_cell hb8]; rfl }); have a6 : w8.cell? ⟨(w.heap.size + 1 + 1), 6, none⟩ = some (.int .i64 0) := (by { rw [blk_cell hb8]; rfl }); have a7 : w8.cell? ⟨(w.heap.size + 1 + 1), 7, none⟩ = some (.slice none 0 0) := (by { rw [blk_cell hb8]; rfl }); have a8 : w8.cell? ⟨(w.heap.size + 1 + 1), 8, none⟩ = some (.slice none 0 0) := (by { rw [blk_cell hb8]; rfl }); have a9 : w8.cell? ⟨(w.heap.size + 1 + 1), 9, none⟩ = some (.slice none 0 0) := (by { rw [blk_cell hb8]; rfl }); have a10 : w8.cell? ⟨(w.heap.size + 1 + 1), 10, none⟩ = some (.int .i64 0) := (by { rw [blk_cell hb8]; rfl }); have a11 : w8.cell? ⟨(w.heap.size + 1 + 1), 11, none⟩ = some (.slice none 0 0) := (by { rw [blk_cell hb8]; rfl }); have a12 : w8.cell? ⟨(w.heap.size + 1 + 1), 12, none⟩ = some (.slice none 0 0) := (by { rw [blk_cell hb8]; rfl }); have a13 : w8.cell? ⟨(w.heap.size + 1 + 1), 13, none⟩ = some (.slice none 0 0) := (by { rw [blk_cell hb8]; rfl }); have a14 : w8.cell? ⟨(w.heap.size + 1 + 1), 14, none⟩ = some (.int .i64 0) := (by { rw [blk_cell hb8]; rfl }); have z0 := blk_frozen hb8 0; have z1 := blk_frozen hb8 1; have z2 := blk_frozen hb8 2; have z3 := blk_frozen hb8 3; have z4 := blk_frozen hb8 4; have z5 := blk_frozen hb8 5; have z6 := blk_frozen hb8 6; have z7 := blk_frozen hb8 7; have z8 := blk_frozen hb8 8; have z9 := blk_frozen hb8 9; have z10 := blk_frozen hb8 10; have z11 := blk_frozen hb8 11; have z12 := blk_frozen hb8 12; have z13 := blk_frozen hb8 13; have z14 := blk_frozen hb8 14; clear hb8))
    obtain ⟨w9, hw9⟩ : ∃ w9, w9 = ((((w8.setCell ⟨w.heap.size + 1 + 1, 6, none⟩ (.int .i64 (-2))).setCell ⟨w.heap.size + 1 + 1, 7, none⟩ (.slice eA 1 ec)).setCell ⟨w.heap.size + 1 + 1, 8, none⟩ (.slice eB 0 ed)).setCell ⟨w.heap.size + 1 + 1, 9, none⟩ (.slice eC 0 ee)) := ⟨_, rfl⟩
    rw [← hw9]
    have hb9 : w9.heap[(w.heap.size + 1 + 1)]? = some (.cells #[.int .i64 5, .int .i64 2, .int .i64 (l.length : Int), .int .i64 (nnI l : Int), .int .i64 0, .int .i64 0, .int .i64 (-2), .slice eA 1 ec, .slice eB 0 ed, .slice eC 0 ee, .int .i64 0, .slice none 0 0, .slice none 0 0, .slice none 0 0, .int .i64 0] 54 (0, 0)) := by rw [hw9]; exact blk_set (blk_set (blk_set (blk_set HB8.out 6 _) 7 _) 8 _) 9 _
    have hg9 : w8.grownBy w9 (some (w.heap.size + 1 + 1)) := by rw [hw9]; exact gb_setCell (gb_setCell (gb_setCell (gb_setCell (gb_refl w8 (some (w.heap.size + 1 + 1))) (.inl rfl) _) (.inl rfl) _) (.inl rfl) _) (.inl rfl) _
    have HG9 := hide hg9
    have HB9 := hide hb9
    have hbz9 : w9.heap[(w.heap.size + 1)]? = some (.cells #[.int .i64 0, .int .i64 0, .int .i64 0, .int .i64 0, .int .i64 0, .int .i64 0, .int .i64 0, .slice none 0 0, .slice none 0 0, .slice none 0 0, .int .i64 0, .slice none 0 0, .slice none 0 0, .slice none 0 0, .int .i64 0] 54 (0, 0)) := blk_keep (blk_keep HBZc.out HG8.out (by simp)) hg9 (by intro e; injection e with e; omega)
    have HBZ9 := hide hbz9
    clear hw9 hg9 a0 a1 a2 a3 a4 a5 a6 a7 a8 a9 a10 a11 a12 a13 a14 z0 z1 z2 z3 z4 z5 z6 z7 z8 z9 z10 z11 z12 z13 z14
    have a0 : w9.cell? ⟨(w.heap.size + 1 + 1), 0, none⟩ = some (.int .i64 5) := by rw [blk_cell hb9]; rfl
    have a1 : w9.cell? ⟨(w.heap.size + 1 + 1), 1, none⟩ = some (.int .i64 2) := by rw [blk_cell hb9]; rfl
    have a2 : w9.cell? ⟨(w.heap.size + 1 + 1), 2, none⟩ = some (.int .i64 (l.length : Int)) := by rw [blk_cell hb9]; rfl
    have a3 : w9.cell? ⟨(w.heap.size + 1 + 1), 3, none⟩ = some (.int .i64 (nnI l : Int)) := by rw [blk_cell hb9]; rfl
    have a4 : w9.cell? ⟨(w.heap.size + 1 + 1), 4, none⟩ = some (.int .i64 0) := by rw [blk_cell hb9]; rfl
    have a5 : w9.cell? ⟨(w.heap.size + 1 + 1), 5, none⟩ = some (.int .i64 0) := by rw [blk_cell hb9]; rfl
    have a6 : w9.cell? ⟨(w.heap.size + 1 + 1), 6, none⟩ = some (.int .i64 (-2)) := by rw [blk_cell hb9]; rfl
    have a7 : w9.cell? ⟨(w.heap.size + 1 + 1), 7, none⟩ = some (.slice eA 1 ec) := by rw [blk_cell hb9]; rfl
    have a8 : w9.cell? ⟨(w.heap.size + 1 + 1), 8, none⟩ = some (.slice eB 0 ed) := by rw [blk_cell hb9]; rfl
    have a9 : w9.cell? ⟨(w.heap.size + 1 + 1), 9, none⟩ = some (.slice eC 0 ee) := by rw [blk_cell hb9]; rfl
    have a10 : w9.cell? ⟨(w.heap.size + 1 + 1), 10, none⟩ = some (.int .i64 0) := by rw [blk_cell hb9]; rfl
    have a11 : w9.cell? ⟨(w.heap.size + 1 + 1), 11, none⟩ = some (.slice none 0 0) := by rw [blk_cell hb9]; rfl
    have a12 : w9.cell? ⟨(w.heap.size + 1 + 1), 12, none⟩ = some (.slice none 0 0) := by rw [blk_cell hb9]; rfl
    have a13 : w9.cell? ⟨(w.heap.size + 1 + 1), 13, none⟩ = some (.slice none 0 0) := by rw [blk_cell hb9]; rfl
    have a14 : w9.cell? ⟨(w.heap.size + 1 + 1), 14, none⟩ = some (.int .i64 0) := by rw [blk_cell hb9]; rfl
    have y0 : w9.cell? ⟨(w.heap.size + 1), 0, none⟩ = some (.int .i64 0) := by rw [blk_cell hbz9]; rfl
    have y1 : w9.cell? ⟨(w.heap.size + 1), 1, none⟩ = some (.int .i64 0) := by rw [blk_cell hbz9]; rfl
    have y2 : w9.cell? ⟨(w.heap.size + 1), 2, none⟩ = some (.int .i64 0) := by rw [blk_cell hbz9]; rfl
    have y3 : w9.cell? ⟨(w.heap.size + 1), 3, none⟩ = some (.int .i64 0) := by rw [blk_cell hbz9]; rfl
    have y4 : w9.cell? ⟨(w.heap.size + 1), 4, none⟩ = some (.int .i64 0) := by rw [blk_cell hbz9]; rfl
    have y5 : w9.cell? ⟨(w.heap.size + 1), 5, none⟩ = some (.int .i64 0) := by rw [blk_cell hbz9]; rfl
    have y6 : w9.cell? ⟨(w.heap.size + 1), 6, none⟩ = some (.int .i64 0) := by rw [blk_cell hbz9]; rfl
    have y7 : w9.cell? ⟨(w.heap.size + 1), 7, none⟩ = some (.slice none 0 0) := by rw [blk_cell hbz9]; rfl
    have y8 : w9.cell? ⟨(w.heap.size + 1), 8, none⟩ = some (.slice none 0 0) := by rw [blk_cell hbz9]; rfl
    have y9 : w9.cell? ⟨(w.heap.size + 1), 9, none⟩ = some (.slice none 0 0) := by rw [blk_cell hbz9]; rfl
    have y10 : w9.cell? ⟨(w.heap.size + 1), 10, none⟩ = some (.int .i64 0) := by rw [blk_cell hbz9]; rfl
    have y11 : w9.cell? ⟨(w.heap.size + 1), 11, none⟩ = some (.slice none 0 0) := by rw [blk_cell hbz9]; rfl
    have y12 : w9.cell? ⟨(w.heap.size + 1), 12, none⟩ = some (.slice none 0 0) := by rw [blk_cell hbz9]; rfl
    have y13 : w9.cell? ⟨(w.heap.size + 1), 13, none⟩ = some (.slice none 0 0) := by rw [blk_cell hbz9]; rfl
    have y14 : w9.cell? ⟨(w.heap.size + 1), 14, none⟩ = some (.int .i64 0) := by rw [blk_cell hbz9]; rfl
    have x0 := blk_frozen hbz9 0
    have x1 := blk_frozen hbz9 1
    have x2 := blk_frozen hbz9 2
    have x3 := blk_frozen hbz9 3
    have x4 := blk_frozen hbz9 4
    have x5 := blk_frozen hbz9 5
    have x6 := blk_frozen hbz9 6
    have x7 := blk_frozen hbz9 7
    have x8 := blk_frozen hbz9 8
    have x9 := blk_frozen hbz9 9
    have x10 := blk_frozen hbz9 10
    have x11 := blk_frozen hbz9 11
    have x12 := blk_frozen hbz9 12
    have x13 := blk_frozen hbz9 13
    have x14 := blk_frozen hbz9 14
    clear hb9 hbz9
    go_wp2_with fail
    obtain ⟨wF, hwF⟩ : ∃ wF, wF = (((((((((((((((w9.setCell ⟨w.heap.size + 1, 0, none⟩ (.int .i64 5)).setCell ⟨w.heap.size + 1, 1, none⟩ (.int .i64 2)).setCell ⟨w.heap.size + 1, 2, none⟩ (.int .i64 (l.length : Int))).setCell ⟨w.heap.size + 1, 3, none⟩ (.int .i64 (nnI l : Int))).setCell ⟨w.heap.size + 1, 4, none⟩ (.int .i64 0)).setCell ⟨w.heap.size + 1, 5, none⟩ (.int .i64 0)).setCell ⟨w.heap.size + 1, 6, none⟩ (.int .i64 (-2))).setCell ⟨w.heap.size + 1, 7, none⟩ (.slice eA 1 ec)).setCell ⟨w.heap.size + 1, 8, none⟩ (.slice eB 0 ed)).setCell ⟨w.heap.size + 1, 9, none⟩ (.slice eC 0 ee)).setCell ⟨w.heap.size + 1, 10, none⟩ (.int .i64 0)).setCell ⟨w.heap.size + 1, 11, none⟩ (.slice none 0 0)).setCell ⟨w.heap.size + 1, 12, none⟩ (.slice none 0 0)).setCell ⟨w.heap.size + 1, 13, none⟩ (.slice none 0 0)).setCell ⟨w.heap.size + 1, 14, none⟩ (.int .i64 0)) := ⟨_, rfl⟩
    rw [← hwF]
    have hfin : wF.heap[(w.heap.size + 1)]? = some (.cells #[.int .i64 5, .int .i64 2, .int .i64 (l.length : Int), .int .i64 (nnI l : Int), .int .i64 0, .int .i64 0, .int .i64 (-2), .slice eA 1 ec, .slice eB 0 ed, .slice eC 0 ee, .int .i64 0, .slice none 0 0, .slice none 0 0, .slice none 0 0, .int .i64 0] 54 (0, 0)) := by
      rw [hwF]
      have h := (blk_set (blk_set (blk_set (blk_set (blk_set (blk_set (blk_set (blk_set (blk_set (blk_set (blk_set (blk_set (blk_set (blk_set (blk_set HBZ9.out 0 (.int .i64 5)) 1 (.int .i64 2)) 2 (.int .i64 (l.length : Int))) 3 (.int .i64 (nnI l : Int))) 4 (.int .i64 0)) 5 (.int .i64 0)) 6 (.int .i64 (-2))) 7 (.slice eA 1 ec)) 8 (.slice eB 0 ed)) 9 (.slice eC 0 ee)) 10 (.int .i64 0)) 11 (.slice none 0 0)) 12 (.slice none 0 0)) 13 (.slice none 0 0)) 14 (.int .i64 0))
      simp only [List.setIfInBounds_toArray, List.set_cons_succ, List.set_cons_zero] at h
      exact h
    have hgf : w9.grownBy wF (some (w.heap.size + 1)) := by rw [hwF]; exact gb_setCell (gb_setCell (gb_setCell (gb_setCell (gb_setCell (gb_setCell (gb_setCell (gb_setCell (gb_setCell (gb_setCell (gb_setCell (gb_setCell (gb_setCell (gb_setCell (gb_setCell (gb_refl w9 (some (w.heap.size + 1))) (.inl rfl) _) (.inl rfl) _) (.inl rfl) _) (.inl rfl) _) (.inl rfl) _) (.inl rfl) _) (.inl rfl) _) (.inl rfl) _) (.inl rfl) _) (.inl rfl) _) (.inl rfl) _) (.inl rfl) _) (.inl rfl) _) (.inl rfl) _) (.inl rfl) _
    clear hwF
    have m0 : wF.cell? ⟨w.heap.size + 1, 0, none⟩ = some (.int .i64 5) := by rw [blk_cell hfin]; rfl
    have m1 : wF.cell? ⟨w.heap.size + 1, 1, none⟩ = some (.int .i64 2) := by rw [blk_cell hfin]; rfl
    have m2 : wF.cell? ⟨w.heap.size + 1, 2, none⟩ = some (.int .i64 (l.length : Int)) := by rw [blk_cell hfin]; rfl
    have m3 : wF.cell? ⟨w.heap.size + 1, 3, none⟩ = some (.int .i64 (nnI l : Int)) := by rw [blk_cell hfin]; rfl
    have m4 : wF.cell? ⟨w.heap.size + 1, 4, none⟩ = some (.int .i64 0) := by rw [blk_cell hfin]; rfl
    have m5 : wF.cell? ⟨w.heap.size + 1, 5, none⟩ = some (.int .i64 0) := by rw [blk_cell hfin]; rfl
    have m6 : wF.cell? ⟨w.heap.size + 1, 6, none⟩ = some (.int .i64 (-2)) := by rw [blk_cell hfin]; rfl
    have m7 : wF.cell? ⟨w.heap.size + 1, 7, none⟩ = some (.slice eA 1 ec) := by rw [blk_cell hfin]; rfl
    have m8 : wF.cell? ⟨w.heap.size + 1, 8, none⟩ = some (.slice eB 0 ed) := by rw [blk_cell hfin]; rfl
    have m9 : wF.cell? ⟨w.heap.size + 1, 9, none⟩ = some (.slice eC 0 ee) := by rw [blk_cell hfin]; rfl
    have m10 : wF.cell? ⟨w.heap.size + 1, 10, none⟩ = some (.int .i64 0) := by rw [blk_cell hfin]; rfl
    have m11 : wF.cell? ⟨w.heap.size + 1, 11, none⟩ = some (.slice none 0 0) := by rw [blk_cell hfin]; rfl
    have m12 : wF.cell? ⟨w.heap.size + 1, 12, none⟩ = some (.slice none 0 0) := by rw [blk_cell hfin]; rfl
    have m13 : wF.cell? ⟨w.heap.size + 1, 13, none⟩ = some (.slice none 0 0) := by rw [blk_cell hfin]; rfl
    have m14 : wF.cell? ⟨w.heap.size + 1, 14, none⟩ = some (.int .i64 0) := by rw [blk_cell hfin]; rfl
    refine bodyPost_ret (v := .agg #[.int .i64 5, .int .i64 2, .int .i64 (l.length : Int), .int .i64 (nnI l : Int), .int .i64 0, .int .i64 0, .int .i64 (-2), .slice eA 1 ec, .slice eB 0 ed, .slice eC 0 ee, .int .i64 0, .slice none 0 0, .slice none 0 0, .slice none 0 0, .int .i64 0]) (by simp [results, Tryz.results62, go_sem, m0, m1, m2, m3, m4, m5, m6, m7, m8, m9, m10, m11, m12, m13, m14]) rfl ?_
    have hk8 : ∀ b, b < w8.heap.size → b ≠ (w.heap.size + 1 + 1) → b ≠ (w.heap.size + 1) → wF.heap[b]? = w8.heap[b]? := fun b hb h1 h2 => (hgf.block b (Nat.lt_of_lt_of_le hb HG9.out.size) (by intro e; injection e with e; exact h2 e)).trans (HG9.out.block b hb (by intro e; injection e with e; exact h1 e))
    have hv8 := VOw.keep _ _ _ HO8.out (fun b hb => hk8 b (HN8.out.2 b hb).2 (by have := (HN8.out.2 b hb).1; have := HG7.out.size; have := HSZc.out; omega) (by have := (HN8.out.2 b hb).1; have := HG7.out.size; have := HSZc.out; omega))
    rw [← HQ.out]
    exact ⟨eA, ec, eB, ed, eC, ee, f8, rfl, hv8, fun b hb => by have := (HN8.out.2 b hb).1; have := HG7.out.size; have := HGC.out.size; omega, gb_trans (gb_trans (gb_trans HGC.out HG8.out (.inl rfl)) HG9.out (.inr (.inr ⟨_, rfl, by omega⟩))) hgf (.inr (.inr ⟨_, rfl, by omega⟩))⟩
set_option maxHeartbeats 4000000 in
set_option maxRecDepth 100000 in
theorem piece4_none (l : List Int) (hI : ∀ k ∈ l, I64 k) (hl6 : l.length ≤ 400000) (hs : nnI l = 0) (w : World) (B : Nat) (nA : Option Addr) (nc : Nat) (sA : Option Addr) (sc : Nat) (lA : Option Addr) (lc : Nat) (ht : (Vl.mk 2 l [] []).tot ≤ 500000) (hB : B ≤ w.heap.size) (h : VB w B (.mk 2 l [] []) nA nc sA sc lA lc) : Calls Tryz.prog 62 #[.int .i64 4, .agg #[.int .i64 2, .slice nA l.length nc, .slice sA 0 sc, .slice lA 0 lc]] w (AccP 4 2 l.length (nnI l) 0 (emp8) w) := by
  have hl : l.length ≤ 1100000 := by omega
  obtain ⟨wa, hwa⟩ : ∃ wa, wa = ((w.alloc (.cells #[.int .i64 2, .slice nA l.length nc, .slice sA 0 sc, .slice lA 0 lc] 26)).alloc (.cells #[.int .i64 0, .int .i64 0, .int .i64 0, .int .i64 0, .int .i64 0, .int .i64 0, .int .i64 0, .slice none 0 0, .slice none 0 0, .slice none 0 0, .int .i64 0, .slice none 0 0, .slice none 0 0, .slice none 0 0, .int .i64 0] 54)).alloc (.cells #[.int .i64 4, .int .i64 (-1), .int .i64 0, .int .i64 0, .int .i64 0, .int .i64 0, .int .i64 0, .slice none 0 0, .slice none 0 0, .slice none 0 0, .int .i64 0, .slice none 0 0, .slice none 0 0, .slice none 0 0, .int .i64 0] 54) := ⟨_, rfl⟩
  have bx : wa.heap[w.heap.size]? = some (.cells #[.int .i64 2, .slice nA l.length nc, .slice sA 0 sc, .slice lA 0 lc] 26 (0, 0)) := by rw [hwa]; exact (Below.heap_alloc _ _ _ (by rw [World.size_alloc, World.size_alloc]; omega)).trans ((Below.heap_alloc _ _ _ (by rw [World.size_alloc]; omega)).trans (heap_alloc_new w _))
  have bz : wa.heap[(w.heap.size + 1)]? = some (.cells #[.int .i64 0, .int .i64 0, .int .i64 0, .int .i64 0, .int .i64 0, .int .i64 0, .int .i64 0, .slice none 0 0, .slice none 0 0, .slice none 0 0, .int .i64 0, .slice none 0 0, .slice none 0 0, .slice none 0 0, .int .i64 0] 54 (0, 0)) := by rw [hwa]; refine (Below.heap_alloc _ _ _ (by rw [World.size_alloc, World.size_alloc]; omega)).trans ?_; have := heap_alloc_new (w.alloc (.cells #[.int .i64 2, .slice nA l.length nc, .slice sA 0 sc, .slice lA 0 lc] 26)) (.cells #[.int .i64 0, .int .i64 0, .int .i64 0, .int .i64 0, .int .i64 0, .int .i64 0, .int .i64 0, .slice none 0 0, .slice none 0 0, .slice none 0 0, .int .i64 0, .slice none 0 0, .slice none 0 0, .slice none 0 0, .int .i64 0] 54); rwa [World.size_alloc] at this
  have b5 : wa.heap[(w.heap.size + 1 + 1)]? = some (.cells #[.int .i64 4, .int .i64 (-1), .int .i64 0, .int .i64 0, .int .i64 0, .int .i64 0, .int .i64 0, .slice none 0 0, .slice none 0 0, .slice none 0 0, .int .i64 0, .slice none 0 0, .slice none 0 0, .slice none 0 0, .int .i64 0] 54 (0, 0)) := by rw [hwa]; have := heap_alloc_new ((w.alloc (.cells #[.int .i64 2, .slice nA l.length nc, .slice sA 0 sc, .slice lA 0 lc] 26)).alloc (.cells #[.int .i64 0, .int .i64 0, .int .i64 0, .int .i64 0, .int .i64 0, .int .i64 0, .int .i64 0, .slice none 0 0, .slice none 0 0, .slice none 0 0, .int .i64 0, .slice none 0 0, .slice none 0 0, .slice none 0 0, .int .i64 0] 54)) (.cells #[.int .i64 4, .int .i64 (-1), .int .i64 0, .int .i64 0, .int .i64 0, .int .i64 0, .int .i64 0, .slice none 0 0, .slice none 0 0, .slice none 0 0, .int .i64 0, .slice none 0 0, .slice none 0 0, .slice none 0 0, .int .i64 0] 54); rwa [World.size_alloc, World.size_alloc] at this
  have HBX := hide bx
  have HBZ := hide bz
  have HB5 := hide b5
  have HSZ := hide (show wa.heap.size = w.heap.size + 3 by rw [hwa]; simp)
  have HG := hide (show w.grownBy wa none by rw [hwa]; exact gb_alloc (gb_alloc (gb_alloc (gb_refl w none) _) _) _)
  have HWE := hide hwa
  have HCN : Hid (∀ w2, w.grownBy w2 none → Calls Tryz.prog 35 #[.agg #[.int .i64 2, .slice nA l.length nc, .slice sA 0 sc, .slice lA 0 lc]] w2 fun e w' => e = .returned (.int .i64 (l.length : Nat)) ∧ w2.grownBy w' none) := hide (fun w2 hg => count_d (Vl.mk 2 l [] []).depth (Vl.mk 2 l [] []) w2 B nA nc sA sc lA lc (Nat.le_refl _) (by omega) (Nat.le_trans hB hg.size) (h.gb hg hB))
  have HSM := hide (fun w2 (hg : w.grownBy w2 none) => some_int l w2 B nA nc sA sc lA lc (by omega) (Nat.le_trans hB hg.size) (h.gb hg hB))
  have HLD := hide (fun w2 (hg : w.grownBy w2 none) => leadUp_int l hI (by omega) w2 B nA nc sA sc lA lc (by omega) (Nat.le_trans hB hg.size) (h.gb hg hB))
  have HTK := hide (fun w2 => takes_int 4 (by decide) (by decide) w2)
  have HL := hide hl
  have HL6 := hide hl6
  have HSP := hide hs
  have hnn := nnI_le l
  have HNN := hide hnn
  obtain ⟨c0, c1, c2, c3⟩ : C4 wa w.heap.size 0 (.int .i64 2) (.slice nA l.length nc) (.slice sA 0 sc) (.slice lA 0 lc) := (by have h := blk_keep HBX.out (gb_refl wa none) (by simp); exact ⟨by rw [blk_cell h]; rfl, by rw [blk_cell h]; rfl, by rw [blk_cell h]; rfl, by rw [blk_cell h]; rfl⟩)
  clear bx bz b5 hwa h hB ht hl hI hl6 hs hnn
  go_enter Tryz.func62, Tryz.ntmps62
  go_upto_region 2 with fail
  rw [← HWE.out]
  go_upto_region 6 with (first
    | (go_at_call 38; refine (HTK.out _).mono ?_; rintro e w1 ⟨rfl, rfl⟩)
    | (go_at_call 35; refine (HCN.out _ HG.out).mono ?_; rintro e w2 ⟨rfl, hg2⟩; have HG2 := hide hg2; clear hg2 c0 c1 c2 c3))
  obtain ⟨c0, c1, c2, c3⟩ : C4 w2 w.heap.size 0 (.int .i64 2) (.slice nA l.length nc) (.slice sA 0 sc) (.slice lA 0 lc) := (by have h := blk_keep HBX.out HG2.out (by simp); exact ⟨by rw [blk_cell h]; rfl, by rw [blk_cell h]; rfl, by rw [blk_cell h]; rfl, by rw [blk_cell h]; rfl⟩)
  have hb2 := blk_keep HB5.out HG2.out (by simp)
  have a0 : w2.cell? ⟨(w.heap.size + 1 + 1), 0, none⟩ = some (.int .i64 4) := by rw [blk_cell hb2]; rfl
  have a1 : w2.cell? ⟨(w.heap.size + 1 + 1), 1, none⟩ = some (.int .i64 (-1)) := by rw [blk_cell hb2]; rfl
  have a2 : w2.cell? ⟨(w.heap.size + 1 + 1), 2, none⟩ = some (.int .i64 0) := by rw [blk_cell hb2]; rfl
  have a3 : w2.cell? ⟨(w.heap.size + 1 + 1), 3, none⟩ = some (.int .i64 0) := by rw [blk_cell hb2]; rfl
  have a4 : w2.cell? ⟨(w.heap.size + 1 + 1), 4, none⟩ = some (.int .i64 0) := by rw [blk_cell hb2]; rfl
  have a5 : w2.cell? ⟨(w.heap.size + 1 + 1), 5, none⟩ = some (.int .i64 0) := by rw [blk_cell hb2]; rfl
  have a6 : w2.cell? ⟨(w.heap.size + 1 + 1), 6, none⟩ = some (.int .i64 0) := by rw [blk_cell hb2]; rfl
  have a7 : w2.cell? ⟨(w.heap.size + 1 + 1), 7, none⟩ = some (.slice none 0 0) := by rw [blk_cell hb2]; rfl
  have a8 : w2.cell? ⟨(w.heap.size + 1 + 1), 8, none⟩ = some (.slice none 0 0) := by rw [blk_cell hb2]; rfl
  have a9 : w2.cell? ⟨(w.heap.size + 1 + 1), 9, none⟩ = some (.slice none 0 0) := by rw [blk_cell hb2]; rfl
  have a10 : w2.cell? ⟨(w.heap.size + 1 + 1), 10, none⟩ = some (.int .i64 0) := by rw [blk_cell hb2]; rfl
  have a11 : w2.cell? ⟨(w.heap.size + 1 + 1), 11, none⟩ = some (.slice none 0 0) := by rw [blk_cell hb2]; rfl
  have a12 : w2.cell? ⟨(w.heap.size + 1 + 1), 12, none⟩ = some (.slice none 0 0) := by rw [blk_cell hb2]; rfl
  have a13 : w2.cell? ⟨(w.heap.size + 1 + 1), 13, none⟩ = some (.slice none 0 0) := by rw [blk_cell hb2]; rfl
  have a14 : w2.cell? ⟨(w.heap.size + 1 + 1), 14, none⟩ = some (.int .i64 0) := by rw [blk_cell hb2]; rfl
  have z0 := blk_frozen hb2 0
  have z1 := blk_frozen hb2 1
  have z2 := blk_frozen hb2 2
  have z3 := blk_frozen hb2 3
  have z4 := blk_frozen hb2 4
  have z5 := blk_frozen hb2 5
  have z6 := blk_frozen hb2 6
  have z7 := blk_frozen hb2 7
  have z8 := blk_frozen hb2 8
  have z9 := blk_frozen hb2 9
  have z10 := blk_frozen hb2 10
  have z11 := blk_frozen hb2 11
  have z12 := blk_frozen hb2 12
  have z13 := blk_frozen hb2 13
  have z14 := blk_frozen hb2 14
  clear hb2
  go_cut [] (fun wc => (wc.heap[(w.heap.size + 1 + 1)]? = some (.cells #[.int .i64 4, .int .i64 2, .int .i64 (l.length : Int), .int .i64 (nnI l : Int), .int .i64 0, .int .i64 0, .int .i64 0, .slice none 0 0, .slice none 0 0, .slice none 0 0, .int .i64 0, .slice none 0 0, .slice none 0 0, .slice none 0 0, .int .i64 0] 54 (0, 0)) ∧ wc.heap[w.heap.size + 1]? = some (.cells #[.int .i64 0, .int .i64 0, .int .i64 0, .int .i64 0, .int .i64 0, .int .i64 0, .int .i64 0, .slice none 0 0, .slice none 0 0, .slice none 0 0, .int .i64 0, .slice none 0 0, .slice none 0 0, .slice none 0 0, .int .i64 0] 54 (0, 0)) ∧ wc.heap[w.heap.size]? = some (.cells #[.int .i64 2, .slice nA l.length nc, .slice sA 0 sc, .slice lA 0 lc] 26 (0, 0))) ∧ w.grownBy wc none ∧ w.heap.size + 3 ≤ wc.heap.size)
  case first =>
    go_region_law ((go_simp; go_at_call 93; refine (HSM.out w2.drew (gb_trans HG.out (gb_drew HG2.out) (.inl rfl))).mono ?_; rintro e w3 ⟨rfl, hg3⟩; have HG3 := hide (show w2.grownBy w3 none from ⟨hg3.os, hg3.tape, hg3.output, hg3.size, hg3.block⟩); clear hg3 c0 c1 c2 c3 a0 a1 a2 a3 a4 a5 a6 a7 a8 a9 a10 a11 a12 a13 a14 z0 z1 z2 z3 z4 z5 z6 z7 z8 z9 z10 z11 z12 z13 z14; have hb3 := blk_keep HB5.out (gb_trans HG2.out HG3.out (.inl rfl)) (by simp); have HB3 := hide hb3; obtain ⟨c0, c1, c2, c3⟩ : C4 w3 w.heap.size 0 (.int .i64 2) (.slice nA l.length nc) (.slice sA 0 sc) (.slice lA 0 lc) := (by have h := blk_keep HBX.out (gb_trans HG2.out HG3.out (.inl rfl)) (by simp); exact ⟨by rw [blk_cell h]; rfl, by rw [blk_cell h]; rfl, by rw [blk_cell h]; rfl, by rw [blk_cell h]; rfl⟩); have a0 : w3.cell? ⟨(w.heap.size + 1 + 1), 0, none⟩ = some (.int .i64 4) := (by { rw [blk_cell hb3]; rfl }); have a1 : w3.cell? ⟨(w.heap.size + 1 + 1), 1, none⟩ = some (.int .i64 (-1)) := (by { rw [blk_cell hb3]; rfl }); have a2 : w3.cell? ⟨(w.heap.size + 1 + 1), 2, none⟩ = some (.int .i64 0) := (by { rw [blk_cell hb3]; rfl }); have a3 : w3.cell? ⟨(w.heap.size + 1 + 1), 3, none⟩ = some (.int .i64 0) := (by { rw [blk_cell hb3]; rfl }); have a4 : w3.cell? ⟨(w.heap.size + 1 + 1), 4, none⟩ = some (.int .i64 0) := (by { rw [blk_cell hb3]; rfl }); have a5 : w3.cell? ⟨(w.heap.size + 1 + 1), 5, none⟩ = some (.int .i64 0) := (by { rw [blk_cell hb3]; rfl }); have a6 : w3.cell? ⟨(w.heap.size + 1 + 1), 6, none⟩ = some (.int .i64 0) := (by { rw [blk_cell hb3]; rfl }); have a7 : w3.cell? ⟨(w.heap.size + 1 + 1), 7, none⟩ = some (.slice none 0 0) := (by { rw [blk_cell hb3]; rfl }); have a8 : w3.cell? ⟨(w.heap.size + 1 + 1), 8, none⟩ = some (.slice none 0 0) := (by { rw [blk_cell hb3]; rfl }); have a9 : w3.cell? ⟨(w.heap.size + 1 + 1), 9, none⟩ = some (.slice none 0 0) := (by { rw [blk_cell hb3]; rfl }); have a10 : w3.cell? ⟨(w.heap.size + 1 + 1), 10, none⟩ = some (.int .i64 0) := (by { rw [blk_cell hb3]; rfl }); have a11 : w3.cell? ⟨(w.heap.size + 1 + 1), 11, none⟩ = some (.slice none 0 0) := (by { rw [blk_cell hb3]; rfl }); have a12 : w3.cell? ⟨(w.heap.size + 1 + 1), 12, none⟩ = some (.slice none 0 0) := (by { rw [blk_cell hb3]; rfl }); have a13 : w3.cell? ⟨(w.heap.size + 1 + 1), 13, none⟩ = some (.slice none 0 0) := (by { rw [blk_cell hb3]; rfl }); have a14 : w3.cell? ⟨(w.heap.size + 1 + 1), 14, none⟩ = some (.int .i64 0) := (by { rw [blk_cell hb3]; rfl }); have z0 := blk_frozen hb3 0; have z1 := blk_frozen hb3 1; have z2 := blk_frozen hb3 2; have z3 := blk_frozen hb3 3; have z4 := blk_frozen hb3 4; have z5 := blk_frozen hb3 5; have z6 := blk_frozen hb3 6; have z7 := blk_frozen hb3 7; have z8 := blk_frozen hb3 8; have z9 := blk_frozen hb3 9; have z10 := blk_frozen hb3 10; have z11 := blk_frozen hb3 11; have z12 := blk_frozen hb3 12; have z13 := blk_frozen hb3 13; have z14 := blk_frozen hb3 14; clear hb3))
    all_goals
      go_wp2_with fail
      go_meet
      case rel =>
        have hg23 := gb_trans HG2.out HG3.out (.inl rfl)
        refine ⟨⟨blk_set (blk_set (blk_set HB3.out 1 _) 2 _) 3 _, ?_, ?_⟩, ?_, ?_⟩
        · exact (Below.heap_setCell _ ⟨w.heap.size + 1 + 1, 3, none⟩ _ _ (by simp)).trans ((Below.heap_setCell _ ⟨w.heap.size + 1 + 1, 2, none⟩ _ _ (by simp)).trans ((Below.heap_setCell _ ⟨w.heap.size + 1 + 1, 1, none⟩ _ _ (by simp)).trans (blk_keep HBZ.out hg23 (by simp))))
        · exact (Below.heap_setCell _ ⟨w.heap.size + 1 + 1, 3, none⟩ _ _ (show w.heap.size ≠ (w.heap.size + 1 + 1) by omega)).trans ((Below.heap_setCell _ ⟨w.heap.size + 1 + 1, 2, none⟩ _ _ (show w.heap.size ≠ (w.heap.size + 1 + 1) by omega)).trans ((Below.heap_setCell _ ⟨w.heap.size + 1 + 1, 1, none⟩ _ _ (show w.heap.size ≠ (w.heap.size + 1 + 1) by omega)).trans (blk_keep HBX.out hg23 (by simp))))
        · exact gb_setCell (gb_setCell (gb_setCell (gb_trans HG.out hg23 (.inl rfl)) (.inr (show w.heap.size ≤ w.heap.size + 1 + 1 by omega)) _) (.inr (show w.heap.size ≤ w.heap.size + 1 + 1 by omega)) _) (.inr (show w.heap.size ≤ w.heap.size + 1 + 1 by omega)) _
        · have := HSZ.out
          have := hg23.size
          simp [World.setCell]
          omega
  case rest =>
    obtain ⟨⟨hb5, hbz, hbx⟩, hgc, hsz⟩ := hcut
    have HB5c := hide hb5
    have HBZc := hide hbz
    have HBXc := hide hbx
    have HGC := hide hgc
    have HSZc := hide hsz
    clear HB5 HBZ HBX HG2 HG HSZ HWE hgc hsz hbx hbz hb5 a0 a1 a2 a3 a4 a5 a6 a7 a8 a9 a10 a11 a12 a13 a14 z0 z1 z2 z3 z4 z5 z6 z7 z8 z9 z10 z11 z12 z13 z14 c0 c1 c2 c3
    have hc1 : ¬ (0 : Int) < (nnI l : Int) := by have := HSP.out; omega
    obtain ⟨w9, rfl⟩ : ∃ w9, w9 = wc := ⟨_, rfl⟩
    have HBZ9 := hide HBZc.out
    have a0 : w9.cell? ⟨(w.heap.size + 1 + 1), 0, none⟩ = some (.int .i64 4) := by rw [blk_cell HB5c.out]; rfl
    have a1 : w9.cell? ⟨(w.heap.size + 1 + 1), 1, none⟩ = some (.int .i64 2) := by rw [blk_cell HB5c.out]; rfl
    have a2 : w9.cell? ⟨(w.heap.size + 1 + 1), 2, none⟩ = some (.int .i64 (l.length : Int)) := by rw [blk_cell HB5c.out]; rfl
    have a3 : w9.cell? ⟨(w.heap.size + 1 + 1), 3, none⟩ = some (.int .i64 (nnI l : Int)) := by rw [blk_cell HB5c.out]; rfl
    have a4 : w9.cell? ⟨(w.heap.size + 1 + 1), 4, none⟩ = some (.int .i64 0) := by rw [blk_cell HB5c.out]; rfl
    have a5 : w9.cell? ⟨(w.heap.size + 1 + 1), 5, none⟩ = some (.int .i64 0) := by rw [blk_cell HB5c.out]; rfl
    have a6 : w9.cell? ⟨(w.heap.size + 1 + 1), 6, none⟩ = some (.int .i64 0) := by rw [blk_cell HB5c.out]; rfl
    have a7 : w9.cell? ⟨(w.heap.size + 1 + 1), 7, none⟩ = some (.slice none 0 0) := by rw [blk_cell HB5c.out]; rfl
    have a8 : w9.cell? ⟨(w.heap.size + 1 + 1), 8, none⟩ = some (.slice none 0 0) := by rw [blk_cell HB5c.out]; rfl
    have a9 : w9.cell? ⟨(w.heap.size + 1 + 1), 9, none⟩ = some (.slice none 0 0) := by rw [blk_cell HB5c.out]; rfl
    have a10 : w9.cell? ⟨(w.heap.size + 1 + 1), 10, none⟩ = some (.int .i64 0) := by rw [blk_cell HB5c.out]; rfl
    have a11 : w9.cell? ⟨(w.heap.size + 1 + 1), 11, none⟩ = some (.slice none 0 0) := by rw [blk_cell HB5c.out]; rfl
    have a12 : w9.cell? ⟨(w.heap.size + 1 + 1), 12, none⟩ = some (.slice none 0 0) := by rw [blk_cell HB5c.out]; rfl
    have a13 : w9.cell? ⟨(w.heap.size + 1 + 1), 13, none⟩ = some (.slice none 0 0) := by rw [blk_cell HB5c.out]; rfl
    have a14 : w9.cell? ⟨(w.heap.size + 1 + 1), 14, none⟩ = some (.int .i64 0) := by rw [blk_cell HB5c.out]; rfl
    have y0 : w9.cell? ⟨(w.heap.size + 1), 0, none⟩ = some (.int .i64 0) := by rw [blk_cell HBZ9.out]; rfl
    have y1 : w9.cell? ⟨(w.heap.size + 1), 1, none⟩ = some (.int .i64 0) := by rw [blk_cell HBZ9.out]; rfl
    have y2 : w9.cell? ⟨(w.heap.size + 1), 2, none⟩ = some (.int .i64 0) := by rw [blk_cell HBZ9.out]; rfl
    have y3 : w9.cell? ⟨(w.heap.size + 1), 3, none⟩ = some (.int .i64 0) := by rw [blk_cell HBZ9.out]; rfl
    have y4 : w9.cell? ⟨(w.heap.size + 1), 4, none⟩ = some (.int .i64 0) := by rw [blk_cell HBZ9.out]; rfl
    have y5 : w9.cell? ⟨(w.heap.size + 1), 5, none⟩ = some (.int .i64 0) := by rw [blk_cell HBZ9.out]; rfl
    have y6 : w9.cell? ⟨(w.heap.size + 1), 6, none⟩ = some (.int .i64 0) := by rw [blk_cell HBZ9.out]; rfl
    have y7 : w9.cell? ⟨(w.heap.size + 1), 7, none⟩ = some (.slice none 0 0) := by rw [blk_cell HBZ9.out]; rfl
    have y8 : w9.cell? ⟨(w.heap.size + 1), 8, none⟩ = some (.slice none 0 0) := by rw [blk_cell HBZ9.out]; rfl
    have y9 : w9.cell? ⟨(w.heap.size + 1), 9, none⟩ = some (.slice none 0 0) := by rw [blk_cell HBZ9.out]; rfl
    have y10 : w9.cell? ⟨(w.heap.size + 1), 10, none⟩ = some (.int .i64 0) := by rw [blk_cell HBZ9.out]; rfl
    have y11 : w9.cell? ⟨(w.heap.size + 1), 11, none⟩ = some (.slice none 0 0) := by rw [blk_cell HBZ9.out]; rfl
    have y12 : w9.cell? ⟨(w.heap.size + 1), 12, none⟩ = some (.slice none 0 0) := by rw [blk_cell HBZ9.out]; rfl
    have y13 : w9.cell? ⟨(w.heap.size + 1), 13, none⟩ = some (.slice none 0 0) := by rw [blk_cell HBZ9.out]; rfl
    have y14 : w9.cell? ⟨(w.heap.size + 1), 14, none⟩ = some (.int .i64 0) := by rw [blk_cell HBZ9.out]; rfl
    have x0 := blk_frozen HBZ9.out 0
    have x1 := blk_frozen HBZ9.out 1
    have x2 := blk_frozen HBZ9.out 2
    have x3 := blk_frozen HBZ9.out 3
    have x4 := blk_frozen HBZ9.out 4
    have x5 := blk_frozen HBZ9.out 5
    have x6 := blk_frozen HBZ9.out 6
    have x7 := blk_frozen HBZ9.out 7
    have x8 := blk_frozen HBZ9.out 8
    have x9 := blk_frozen HBZ9.out 9
    have x10 := blk_frozen HBZ9.out 10
    have x11 := blk_frozen HBZ9.out 11
    have x12 := blk_frozen HBZ9.out 12
    have x13 := blk_frozen HBZ9.out 13
    have x14 := blk_frozen HBZ9.out 14
    go_wp2_with fail
    obtain ⟨wF, hwF⟩ : ∃ wF, wF = (((((((((((((((w9.setCell ⟨w.heap.size + 1, 0, none⟩ (.int .i64 4)).setCell ⟨w.heap.size + 1, 1, none⟩ (.int .i64 2)).setCell ⟨w.heap.size + 1, 2, none⟩ (.int .i64 (l.length : Int))).setCell ⟨w.heap.size + 1, 3, none⟩ (.int .i64 (nnI l : Int))).setCell ⟨w.heap.size + 1, 4, none⟩ (.int .i64 0)).setCell ⟨w.heap.size + 1, 5, none⟩ (.int .i64 0)).setCell ⟨w.heap.size + 1, 6, none⟩ (.int .i64 0)).setCell ⟨w.heap.size + 1, 7, none⟩ (.slice none 0 0)).setCell ⟨w.heap.size + 1, 8, none⟩ (.slice none 0 0)).setCell ⟨w.heap.size + 1, 9, none⟩ (.slice none 0 0)).setCell ⟨w.heap.size + 1, 10, none⟩ (.int .i64 0)).setCell ⟨w.heap.size + 1, 11, none⟩ (.slice none 0 0)).setCell ⟨w.heap.size + 1, 12, none⟩ (.slice none 0 0)).setCell ⟨w.heap.size + 1, 13, none⟩ (.slice none 0 0)).setCell ⟨w.heap.size + 1, 14, none⟩ (.int .i64 0)) := ⟨_, rfl⟩
    rw [← hwF]
    have hfin : wF.heap[(w.heap.size + 1)]? = some (.cells #[.int .i64 4, .int .i64 2, .int .i64 (l.length : Int), .int .i64 (nnI l : Int), .int .i64 0, .int .i64 0, .int .i64 0, .slice none 0 0, .slice none 0 0, .slice none 0 0, .int .i64 0, .slice none 0 0, .slice none 0 0, .slice none 0 0, .int .i64 0] 54 (0, 0)) := by
      rw [hwF]
      have h := (blk_set (blk_set (blk_set (blk_set (blk_set (blk_set (blk_set (blk_set (blk_set (blk_set (blk_set (blk_set (blk_set (blk_set (blk_set HBZ9.out 0 (.int .i64 4)) 1 (.int .i64 2)) 2 (.int .i64 (l.length : Int))) 3 (.int .i64 (nnI l : Int))) 4 (.int .i64 0)) 5 (.int .i64 0)) 6 (.int .i64 0)) 7 (.slice none 0 0)) 8 (.slice none 0 0)) 9 (.slice none 0 0)) 10 (.int .i64 0)) 11 (.slice none 0 0)) 12 (.slice none 0 0)) 13 (.slice none 0 0)) 14 (.int .i64 0))
      simp only [List.setIfInBounds_toArray, List.set_cons_succ, List.set_cons_zero] at h
      exact h
    have hgf : w9.grownBy wF (some (w.heap.size + 1)) := by rw [hwF]; exact gb_setCell (gb_setCell (gb_setCell (gb_setCell (gb_setCell (gb_setCell (gb_setCell (gb_setCell (gb_setCell (gb_setCell (gb_setCell (gb_setCell (gb_setCell (gb_setCell (gb_setCell (gb_refl w9 (some (w.heap.size + 1))) (.inl rfl) _) (.inl rfl) _) (.inl rfl) _) (.inl rfl) _) (.inl rfl) _) (.inl rfl) _) (.inl rfl) _) (.inl rfl) _) (.inl rfl) _) (.inl rfl) _) (.inl rfl) _) (.inl rfl) _) (.inl rfl) _) (.inl rfl) _) (.inl rfl) _
    clear hwF
    have m0 : wF.cell? ⟨w.heap.size + 1, 0, none⟩ = some (.int .i64 4) := by rw [blk_cell hfin]; rfl
    have m1 : wF.cell? ⟨w.heap.size + 1, 1, none⟩ = some (.int .i64 2) := by rw [blk_cell hfin]; rfl
    have m2 : wF.cell? ⟨w.heap.size + 1, 2, none⟩ = some (.int .i64 (l.length : Int)) := by rw [blk_cell hfin]; rfl
    have m3 : wF.cell? ⟨w.heap.size + 1, 3, none⟩ = some (.int .i64 (nnI l : Int)) := by rw [blk_cell hfin]; rfl
    have m4 : wF.cell? ⟨w.heap.size + 1, 4, none⟩ = some (.int .i64 0) := by rw [blk_cell hfin]; rfl
    have m5 : wF.cell? ⟨w.heap.size + 1, 5, none⟩ = some (.int .i64 0) := by rw [blk_cell hfin]; rfl
    have m6 : wF.cell? ⟨w.heap.size + 1, 6, none⟩ = some (.int .i64 0) := by rw [blk_cell hfin]; rfl
    have m7 : wF.cell? ⟨w.heap.size + 1, 7, none⟩ = some (.slice none 0 0) := by rw [blk_cell hfin]; rfl
    have m8 : wF.cell? ⟨w.heap.size + 1, 8, none⟩ = some (.slice none 0 0) := by rw [blk_cell hfin]; rfl
    have m9 : wF.cell? ⟨w.heap.size + 1, 9, none⟩ = some (.slice none 0 0) := by rw [blk_cell hfin]; rfl
    have m10 : wF.cell? ⟨w.heap.size + 1, 10, none⟩ = some (.int .i64 0) := by rw [blk_cell hfin]; rfl
    have m11 : wF.cell? ⟨w.heap.size + 1, 11, none⟩ = some (.slice none 0 0) := by rw [blk_cell hfin]; rfl
    have m12 : wF.cell? ⟨w.heap.size + 1, 12, none⟩ = some (.slice none 0 0) := by rw [blk_cell hfin]; rfl
    have m13 : wF.cell? ⟨w.heap.size + 1, 13, none⟩ = some (.slice none 0 0) := by rw [blk_cell hfin]; rfl
    have m14 : wF.cell? ⟨w.heap.size + 1, 14, none⟩ = some (.int .i64 0) := by rw [blk_cell hfin]; rfl
    refine bodyPost_ret (v := .agg #[.int .i64 4, .int .i64 2, .int .i64 (l.length : Int), .int .i64 (nnI l : Int), .int .i64 0, .int .i64 0, .int .i64 0, .slice none 0 0, .slice none 0 0, .slice none 0 0, .int .i64 0, .slice none 0 0, .slice none 0 0, .slice none 0 0, .int .i64 0]) (by simp [results, Tryz.results62, go_sem, m0, m1, m2, m3, m4, m5, m6, m7, m8, m9, m10, m11, m12, m13, m14]) rfl ?_
    exact ⟨none, 0, none, 0, none, 0, [], rfl, vow_emp8 wF, by simp, gb_trans HGC.out hgf (.inr (.inr ⟨_, rfl, by omega⟩))⟩
set_option maxHeartbeats 4000000 in
set_option maxRecDepth 100000 in
theorem piece5_none (l : List Int) (hI : ∀ k ∈ l, I64 k) (hl6 : l.length ≤ 400000) (hs : nnI l = 0) (w : World) (B : Nat) (nA : Option Addr) (nc : Nat) (sA : Option Addr) (sc : Nat) (lA : Option Addr) (lc : Nat) (ht : (Vl.mk 2 l [] []).tot ≤ 500000) (hB : B ≤ w.heap.size) (h : VB w B (.mk 2 l [] []) nA nc sA sc lA lc) : Calls Tryz.prog 62 #[.int .i64 5, .agg #[.int .i64 2, .slice nA l.length nc, .slice sA 0 sc, .slice lA 0 lc]] w (AccP 5 2 l.length (nnI l) 0 (emp8) w) := by
  have hl : l.length ≤ 1100000 := by omega
  obtain ⟨wa, hwa⟩ : ∃ wa, wa = ((w.alloc (.cells #[.int .i64 2, .slice nA l.length nc, .slice sA 0 sc, .slice lA 0 lc] 26)).alloc (.cells #[.int .i64 0, .int .i64 0, .int .i64 0, .int .i64 0, .int .i64 0, .int .i64 0, .int .i64 0, .slice none 0 0, .slice none 0 0, .slice none 0 0, .int .i64 0, .slice none 0 0, .slice none 0 0, .slice none 0 0, .int .i64 0] 54)).alloc (.cells #[.int .i64 5, .int .i64 (-1), .int .i64 0, .int .i64 0, .int .i64 0, .int .i64 0, .int .i64 0, .slice none 0 0, .slice none 0 0, .slice none 0 0, .int .i64 0, .slice none 0 0, .slice none 0 0, .slice none 0 0, .int .i64 0] 54) := ⟨_, rfl⟩
  have bx : wa.heap[w.heap.size]? = some (.cells #[.int .i64 2, .slice nA l.length nc, .slice sA 0 sc, .slice lA 0 lc] 26 (0, 0)) := by rw [hwa]; exact (Below.heap_alloc _ _ _ (by rw [World.size_alloc, World.size_alloc]; omega)).trans ((Below.heap_alloc _ _ _ (by rw [World.size_alloc]; omega)).trans (heap_alloc_new w _))
  have bz : wa.heap[(w.heap.size + 1)]? = some (.cells #[.int .i64 0, .int .i64 0, .int .i64 0, .int .i64 0, .int .i64 0, .int .i64 0, .int .i64 0, .slice none 0 0, .slice none 0 0, .slice none 0 0, .int .i64 0, .slice none 0 0, .slice none 0 0, .slice none 0 0, .int .i64 0] 54 (0, 0)) := by rw [hwa]; refine (Below.heap_alloc _ _ _ (by rw [World.size_alloc, World.size_alloc]; omega)).trans ?_; have := heap_alloc_new (w.alloc (.cells #[.int .i64 2, .slice nA l.length nc, .slice sA 0 sc, .slice lA 0 lc] 26)) (.cells #[.int .i64 0, .int .i64 0, .int .i64 0, .int .i64 0, .int .i64 0, .int .i64 0, .int .i64 0, .slice none 0 0, .slice none 0 0, .slice none 0 0, .int .i64 0, .slice none 0 0, .slice none 0 0, .slice none 0 0, .int .i64 0] 54); rwa [World.size_alloc] at this
  have b5 : wa.heap[(w.heap.size + 1 + 1)]? = some (.cells #[.int .i64 5, .int .i64 (-1), .int .i64 0, .int .i64 0, .int .i64 0, .int .i64 0, .int .i64 0, .slice none 0 0, .slice none 0 0, .slice none 0 0, .int .i64 0, .slice none 0 0, .slice none 0 0, .slice none 0 0, .int .i64 0] 54 (0, 0)) := by rw [hwa]; have := heap_alloc_new ((w.alloc (.cells #[.int .i64 2, .slice nA l.length nc, .slice sA 0 sc, .slice lA 0 lc] 26)).alloc (.cells #[.int .i64 0, .int .i64 0, .int .i64 0, .int .i64 0, .int .i64 0, .int .i64 0, .int .i64 0, .slice none 0 0, .slice none 0 0, .slice none 0 0, .int .i64 0, .slice none 0 0, .slice none 0 0, .slice none 0 0, .int .i64 0] 54)) (.cells #[.int .i64 5, .int .i64 (-1), .int .i64 0, .int .i64 0, .int .i64 0, .int .i64 0, .int .i64 0, .slice none 0 0, .slice none 0 0, .slice none 0 0, .int .i64 0, .slice none 0 0, .slice none 0 0, .slice none 0 0, .int .i64 0] 54); rwa [World.size_alloc, World.size_alloc] at this
  have HBX := hide bx
  have HBZ := hide bz
  have HB5 := hide b5
  have HSZ := hide (show wa.heap.size = w.heap.size + 3 by rw [hwa]; simp)
  have HG := hide (show w.grownBy wa none by rw [hwa]; exact gb_alloc (gb_alloc (gb_alloc (gb_refl w none) _) _) _)
  have HWE := hide hwa
  have HCN : Hid (∀ w2, w.grownBy w2 none → Calls Tryz.prog 35 #[.agg #[.int .i64 2, .slice nA l.length nc, .slice sA 0 sc, .slice lA 0 lc]] w2 fun e w' => e = .returned (.int .i64 (l.length : Nat)) ∧ w2.grownBy w' none) := hide (fun w2 hg => count_d (Vl.mk 2 l [] []).depth (Vl.mk 2 l [] []) w2 B nA nc sA sc lA lc (Nat.le_refl _) (by omega) (Nat.le_trans hB hg.size) (h.gb hg hB))
  have HSM := hide (fun w2 (hg : w.grownBy w2 none) => some_int l w2 B nA nc sA sc lA lc (by omega) (Nat.le_trans hB hg.size) (h.gb hg hB))
  have HLD := hide (fun w2 (hg : w.grownBy w2 none) => leadDn_int l hI (by omega) w2 B nA nc sA sc lA lc (by omega) (Nat.le_trans hB hg.size) (h.gb hg hB))
  have HTK := hide (fun w2 => takes_int 5 (by decide) (by decide) w2)
  have HL := hide hl
  have HL6 := hide hl6
  have HSP := hide hs
  have hnn := nnI_le l
  have HNN := hide hnn
  obtain ⟨c0, c1, c2, c3⟩ : C4 wa w.heap.size 0 (.int .i64 2) (.slice nA l.length nc) (.slice sA 0 sc) (.slice lA 0 lc) := (by have h := blk_keep HBX.out (gb_refl wa none) (by simp); exact ⟨by rw [blk_cell h]; rfl, by rw [blk_cell h]; rfl, by rw [blk_cell h]; rfl, by rw [blk_cell h]; rfl⟩)
  clear bx bz b5 hwa h hB ht hl hI hl6 hs hnn
  go_enter Tryz.func62, Tryz.ntmps62
  go_upto_region 2 with fail
  rw [← HWE.out]
  go_upto_region 6 with (first
    | (go_at_call 38; refine (HTK.out _).mono ?_; rintro e w1 ⟨rfl, rfl⟩)
    | (go_at_call 35; refine (HCN.out _ HG.out).mono ?_; rintro e w2 ⟨rfl, hg2⟩; have HG2 := hide hg2; clear hg2 c0 c1 c2 c3))
  obtain ⟨c0, c1, c2, c3⟩ : C4 w2 w.heap.size 0 (.int .i64 2) (.slice nA l.length nc) (.slice sA 0 sc) (.slice lA 0 lc) := (by have h := blk_keep HBX.out HG2.out (by simp); exact ⟨by rw [blk_cell h]; rfl, by rw [blk_cell h]; rfl, by rw [blk_cell h]; rfl, by rw [blk_cell h]; rfl⟩)
  have hb2 := blk_keep HB5.out HG2.out (by simp)
  have a0 : w2.cell? ⟨(w.heap.size + 1 + 1), 0, none⟩ = some (.int .i64 5) := by rw [blk_cell hb2]; rfl
  have a1 : w2.cell? ⟨(w.heap.size + 1 + 1), 1, none⟩ = some (.int .i64 (-1)) := by rw [blk_cell hb2]; rfl
  have a2 : w2.cell? ⟨(w.heap.size + 1 + 1), 2, none⟩ = some (.int .i64 0) := by rw [blk_cell hb2]; rfl
  have a3 : w2.cell? ⟨(w.heap.size + 1 + 1), 3, none⟩ = some (.int .i64 0) := by rw [blk_cell hb2]; rfl
  have a4 : w2.cell? ⟨(w.heap.size + 1 + 1), 4, none⟩ = some (.int .i64 0) := by rw [blk_cell hb2]; rfl
  have a5 : w2.cell? ⟨(w.heap.size + 1 + 1), 5, none⟩ = some (.int .i64 0) := by rw [blk_cell hb2]; rfl
  have a6 : w2.cell? ⟨(w.heap.size + 1 + 1), 6, none⟩ = some (.int .i64 0) := by rw [blk_cell hb2]; rfl
  have a7 : w2.cell? ⟨(w.heap.size + 1 + 1), 7, none⟩ = some (.slice none 0 0) := by rw [blk_cell hb2]; rfl
  have a8 : w2.cell? ⟨(w.heap.size + 1 + 1), 8, none⟩ = some (.slice none 0 0) := by rw [blk_cell hb2]; rfl
  have a9 : w2.cell? ⟨(w.heap.size + 1 + 1), 9, none⟩ = some (.slice none 0 0) := by rw [blk_cell hb2]; rfl
  have a10 : w2.cell? ⟨(w.heap.size + 1 + 1), 10, none⟩ = some (.int .i64 0) := by rw [blk_cell hb2]; rfl
  have a11 : w2.cell? ⟨(w.heap.size + 1 + 1), 11, none⟩ = some (.slice none 0 0) := by rw [blk_cell hb2]; rfl
  have a12 : w2.cell? ⟨(w.heap.size + 1 + 1), 12, none⟩ = some (.slice none 0 0) := by rw [blk_cell hb2]; rfl
  have a13 : w2.cell? ⟨(w.heap.size + 1 + 1), 13, none⟩ = some (.slice none 0 0) := by rw [blk_cell hb2]; rfl
  have a14 : w2.cell? ⟨(w.heap.size + 1 + 1), 14, none⟩ = some (.int .i64 0) := by rw [blk_cell hb2]; rfl
  have z0 := blk_frozen hb2 0
  have z1 := blk_frozen hb2 1
  have z2 := blk_frozen hb2 2
  have z3 := blk_frozen hb2 3
  have z4 := blk_frozen hb2 4
  have z5 := blk_frozen hb2 5
  have z6 := blk_frozen hb2 6
  have z7 := blk_frozen hb2 7
  have z8 := blk_frozen hb2 8
  have z9 := blk_frozen hb2 9
  have z10 := blk_frozen hb2 10
  have z11 := blk_frozen hb2 11
  have z12 := blk_frozen hb2 12
  have z13 := blk_frozen hb2 13
  have z14 := blk_frozen hb2 14
  clear hb2
  go_cut [] (fun wc => (wc.heap[(w.heap.size + 1 + 1)]? = some (.cells #[.int .i64 5, .int .i64 2, .int .i64 (l.length : Int), .int .i64 (nnI l : Int), .int .i64 0, .int .i64 0, .int .i64 0, .slice none 0 0, .slice none 0 0, .slice none 0 0, .int .i64 0, .slice none 0 0, .slice none 0 0, .slice none 0 0, .int .i64 0] 54 (0, 0)) ∧ wc.heap[w.heap.size + 1]? = some (.cells #[.int .i64 0, .int .i64 0, .int .i64 0, .int .i64 0, .int .i64 0, .int .i64 0, .int .i64 0, .slice none 0 0, .slice none 0 0, .slice none 0 0, .int .i64 0, .slice none 0 0, .slice none 0 0, .slice none 0 0, .int .i64 0] 54 (0, 0)) ∧ wc.heap[w.heap.size]? = some (.cells #[.int .i64 2, .slice nA l.length nc, .slice sA 0 sc, .slice lA 0 lc] 26 (0, 0))) ∧ w.grownBy wc none ∧ w.heap.size + 3 ≤ wc.heap.size)
  case first =>
    go_region_law ((go_simp; go_at_call 93; refine (HSM.out w2.drew (gb_trans HG.out (gb_drew HG2.out) (.inl rfl))).mono ?_; rintro e w3 ⟨rfl, hg3⟩; have HG3 := hide (show w2.grownBy w3 none from ⟨hg3.os, hg3.tape, hg3.output, hg3.size, hg3.block⟩); clear hg3 c0 c1 c2 c3 a0 a1 a2 a3 a4 a5 a6 a7 a8 a9 a10 a11 a12 a13 a14 z0 z1 z2 z3 z4 z5 z6 z7 z8 z9 z10 z11 z12 z13 z14; have hb3 := blk_keep HB5.out (gb_trans HG2.out HG3.out (.inl rfl)) (by simp); have HB3 := hide hb3; obtain ⟨c0, c1, c2, c3⟩ : C4 w3 w.heap.size 0 (.int .i64 2) (.slice nA l.length nc) (.slice sA 0 sc) (.slice lA 0 lc) := (by have h := blk_keep HBX.out (gb_trans HG2.out HG3.out (.inl rfl)) (by simp); exact ⟨by rw [blk_cell h]; rfl, by rw [blk_cell h]; rfl, by rw [blk_cell h]; rfl, by rw [blk_cell h]; rfl⟩); have a0 : w3.cell? ⟨(w.heap.size + 1 + 1), 0, none⟩ = some (.int .i64 5) := (by { rw [blk_cell hb3]; rfl }); have a1 : w3.cell? ⟨(w.heap.size + 1 + 1), 1, none⟩ = some (.int .i64 (-1)) := (by { rw [blk_cell hb3]; rfl }); have a2 : w3.cell? ⟨(w.heap.size + 1 + 1), 2, none⟩ = some (.int .i64 0) := (by { rw [blk_cell hb3]; rfl }); have a3 : w3.cell? ⟨(w.heap.size + 1 + 1), 3, none⟩ = some (.int .i64 0) := (by { rw [blk_cell hb3]; rfl }); have a4 : w3.cell? ⟨(w.heap.size + 1 + 1), 4, none⟩ = some (.int .i64 0) := (by { rw [blk_cell hb3]; rfl }); have a5 : w3.cell? ⟨(w.heap.size + 1 + 1), 5, none⟩ = some (.int .i64 0) := (by { rw [blk_cell hb3]; rfl }); have a6 : w3.cell? ⟨(w.heap.size + 1 + 1), 6, none⟩ = some (.int .i64 0) := (by { rw [blk_cell hb3]; rfl }); have a7 : w3.cell? ⟨(w.heap.size + 1 + 1), 7, none⟩ = some (.slice none 0 0) := (by { rw [blk_cell hb3]; rfl }); have a8 : w3.cell? ⟨(w.heap.size + 1 + 1), 8, none⟩ = some (.slice none 0 0) := (by { rw [blk_cell hb3]; rfl }); have a9 : w3.cell? ⟨(w.heap.size + 1 + 1), 9, none⟩ = some (.slice none 0 0) := (by { rw [blk_cell hb3]; rfl }); have a10 : w3.cell? ⟨(w.heap.size + 1 + 1), 10, none⟩ = some (.int .i64 0) := (by { rw [blk_cell hb3]; rfl }); have a11 : w3.cell? ⟨(w.heap.size + 1 + 1), 11, none⟩ = some (.slice none 0 0) := (by { rw [blk_cell hb3]; rfl }); have a12 : w3.cell? ⟨(w.heap.size + 1 + 1), 12, none⟩ = some (.slice none 0 0) := (by { rw [blk_cell hb3]; rfl }); have a13 : w3.cell? ⟨(w.heap.size + 1 + 1), 13, none⟩ = some (.slice none 0 0) := (by { rw [blk_cell hb3]; rfl }); have a14 : w3.cell? ⟨(w.heap.size + 1 + 1), 14, none⟩ = some (.int .i64 0) := (by { rw [blk_cell hb3]; rfl }); have z0 := blk_frozen hb3 0; have z1 := blk_frozen hb3 1; have z2 := blk_frozen hb3 2; have z3 := blk_frozen hb3 3; have z4 := blk_frozen hb3 4; have z5 := blk_frozen hb3 5; have z6 := blk_frozen hb3 6; have z7 := blk_frozen hb3 7; have z8 := blk_frozen hb3 8; have z9 := blk_frozen hb3 9; have z10 := blk_frozen hb3 10; have z11 := blk_frozen hb3 11; have z12 := blk_frozen hb3 12; have z13 := blk_frozen hb3 13; have z14 := blk_frozen hb3 14; clear hb3))
    all_goals
      go_wp2_with fail
      go_meet
      case rel =>
        have hg23 := gb_trans HG2.out HG3.out (.inl rfl)
        refine ⟨⟨blk_set (blk_set (blk_set HB3.out 1 _) 2 _) 3 _, ?_, ?_⟩, ?_, ?_⟩
        · exact (Below.heap_setCell _ ⟨w.heap.size + 1 + 1, 3, none⟩ _ _ (by simp)).trans ((Below.heap_setCell _ ⟨w.heap.size + 1 + 1, 2, none⟩ _ _ (by simp)).trans ((Below.heap_setCell _ ⟨w.heap.size + 1 + 1, 1, none⟩ _ _ (by simp)).trans (blk_keep HBZ.out hg23 (by simp))))
        · exact (Below.heap_setCell _ ⟨w.heap.size + 1 + 1, 3, none⟩ _ _ (show w.heap.size ≠ (w.heap.size + 1 + 1) by omega)).trans ((Below.heap_setCell _ ⟨w.heap.size + 1 + 1, 2, none⟩ _ _ (show w.heap.size ≠ (w.heap.size + 1 + 1) by omega)).trans ((Below.heap_setCell _ ⟨w.heap.size + 1 + 1, 1, none⟩ _ _ (show w.heap.size ≠ (w.heap.size + 1 + 1) by omega)).trans (blk_keep HBX.out hg23 (by simp))))
        · exact gb_setCell (gb_setCell (gb_setCell (gb_trans HG.out hg23 (.inl rfl)) (.inr (show w.heap.size ≤ w.heap.size + 1 + 1 by omega)) _) (.inr (show w.heap.size ≤ w.heap.size + 1 + 1 by omega)) _) (.inr (show w.heap.size ≤ w.heap.size + 1 + 1 by omega)) _
        · have := HSZ.out
          have := hg23.size
          simp [World.setCell]
          omega
  case rest =>
    obtain ⟨⟨hb5, hbz, hbx⟩, hgc, hsz⟩ := hcut
    have HB5c := hide hb5
    have HBZc := hide hbz
    have HBXc := hide hbx
    have HGC := hide hgc
    have HSZc := hide hsz
    clear HB5 HBZ HBX HG2 HG HSZ HWE hgc hsz hbx hbz hb5 a0 a1 a2 a3 a4 a5 a6 a7 a8 a9 a10 a11 a12 a13 a14 z0 z1 z2 z3 z4 z5 z6 z7 z8 z9 z10 z11 z12 z13 z14 c0 c1 c2 c3
    have hc1 : ¬ (0 : Int) < (nnI l : Int) := by have := HSP.out; omega
    obtain ⟨w9, rfl⟩ : ∃ w9, w9 = wc := ⟨_, rfl⟩
    have HBZ9 := hide HBZc.out
    have a0 : w9.cell? ⟨(w.heap.size + 1 + 1), 0, none⟩ = some (.int .i64 5) := by rw [blk_cell HB5c.out]; rfl
    have a1 : w9.cell? ⟨(w.heap.size + 1 + 1), 1, none⟩ = some (.int .i64 2) := by rw [blk_cell HB5c.out]; rfl
    have a2 : w9.cell? ⟨(w.heap.size + 1 + 1), 2, none⟩ = some (.int .i64 (l.length : Int)) := by rw [blk_cell HB5c.out]; rfl
    have a3 : w9.cell? ⟨(w.heap.size + 1 + 1), 3, none⟩ = some (.int .i64 (nnI l : Int)) := by rw [blk_cell HB5c.out]; rfl
    have a4 : w9.cell? ⟨(w.heap.size + 1 + 1), 4, none⟩ = some (.int .i64 0) := by rw [blk_cell HB5c.out]; rfl
    have a5 : w9.cell? ⟨(w.heap.size + 1 + 1), 5, none⟩ = some (.int .i64 0) := by rw [blk_cell HB5c.out]; rfl
    have a6 : w9.cell? ⟨(w.heap.size + 1 + 1), 6, none⟩ = some (.int .i64 0) := by rw [blk_cell HB5c.out]; rfl
    have a7 : w9.cell? ⟨(w.heap.size + 1 + 1), 7, none⟩ = some (.slice none 0 0) := by rw [blk_cell HB5c.out]; rfl
    have a8 : w9.cell? ⟨(w.heap.size + 1 + 1), 8, none⟩ = some (.slice none 0 0) := by rw [blk_cell HB5c.out]; rfl
    have a9 : w9.cell? ⟨(w.heap.size + 1 + 1), 9, none⟩ = some (.slice none 0 0) := by rw [blk_cell HB5c.out]; rfl
    have a10 : w9.cell? ⟨(w.heap.size + 1 + 1), 10, none⟩ = some (.int .i64 0) := by rw [blk_cell HB5c.out]; rfl
    have a11 : w9.cell? ⟨(w.heap.size + 1 + 1), 11, none⟩ = some (.slice none 0 0) := by rw [blk_cell HB5c.out]; rfl
    have a12 : w9.cell? ⟨(w.heap.size + 1 + 1), 12, none⟩ = some (.slice none 0 0) := by rw [blk_cell HB5c.out]; rfl
    have a13 : w9.cell? ⟨(w.heap.size + 1 + 1), 13, none⟩ = some (.slice none 0 0) := by rw [blk_cell HB5c.out]; rfl
    have a14 : w9.cell? ⟨(w.heap.size + 1 + 1), 14, none⟩ = some (.int .i64 0) := by rw [blk_cell HB5c.out]; rfl
    have y0 : w9.cell? ⟨(w.heap.size + 1), 0, none⟩ = some (.int .i64 0) := by rw [blk_cell HBZ9.out]; rfl
    have y1 : w9.cell? ⟨(w.heap.size + 1), 1, none⟩ = some (.int .i64 0) := by rw [blk_cell HBZ9.out]; rfl
    have y2 : w9.cell? ⟨(w.heap.size + 1), 2, none⟩ = some (.int .i64 0) := by rw [blk_cell HBZ9.out]; rfl
    have y3 : w9.cell? ⟨(w.heap.size + 1), 3, none⟩ = some (.int .i64 0) := by rw [blk_cell HBZ9.out]; rfl
    have y4 : w9.cell? ⟨(w.heap.size + 1), 4, none⟩ = some (.int .i64 0) := by rw [blk_cell HBZ9.out]; rfl
    have y5 : w9.cell? ⟨(w.heap.size + 1), 5, none⟩ = some (.int .i64 0) := by rw [blk_cell HBZ9.out]; rfl
    have y6 : w9.cell? ⟨(w.heap.size + 1), 6, none⟩ = some (.int .i64 0) := by rw [blk_cell HBZ9.out]; rfl
    have y7 : w9.cell? ⟨(w.heap.size + 1), 7, none⟩ = some (.slice none 0 0) := by rw [blk_cell HBZ9.out]; rfl
    have y8 : w9.cell? ⟨(w.heap.size + 1), 8, none⟩ = some (.slice none 0 0) := by rw [blk_cell HBZ9.out]; rfl
    have y9 : w9.cell? ⟨(w.heap.size + 1), 9, none⟩ = some (.slice none 0 0) := by rw [blk_cell HBZ9.out]; rfl
    have y10 : w9.cell? ⟨(w.heap.size + 1), 10, none⟩ = some (.int .i64 0) := by rw [blk_cell HBZ9.out]; rfl
    have y11 : w9.cell? ⟨(w.heap.size + 1), 11, none⟩ = some (.slice none 0 0) := by rw [blk_cell HBZ9.out]; rfl
    have y12 : w9.cell? ⟨(w.heap.size + 1), 12, none⟩ = some (.slice none 0 0) := by rw [blk_cell HBZ9.out]; rfl
    have y13 : w9.cell? ⟨(w.heap.size + 1), 13, none⟩ = some (.slice none 0 0) := by rw [blk_cell HBZ9.out]; rfl
    have y14 : w9.cell? ⟨(w.heap.size + 1), 14, none⟩ = some (.int .i64 0) := by rw [blk_cell HBZ9.out]; rfl
    have x0 := blk_frozen HBZ9.out 0
    have x1 := blk_frozen HBZ9.out 1
    have x2 := blk_frozen HBZ9.out 2
    have x3 := blk_frozen HBZ9.out 3
    have x4 := blk_frozen HBZ9.out 4
    have x5 := blk_frozen HBZ9.out 5
    have x6 := blk_frozen HBZ9.out 6
    have x7 := blk_frozen HBZ9.out 7
    have x8 := blk_frozen HBZ9.out 8
    have x9 := blk_frozen HBZ9.out 9
    have x10 := blk_frozen HBZ9.out 10
    have x11 := blk_frozen HBZ9.out 11
    have x12 := blk_frozen HBZ9.out 12
    have x13 := blk_frozen HBZ9.out 13
    have x14 := blk_frozen HBZ9.out 14
    go_wp2_with fail
    obtain ⟨wF, hwF⟩ : ∃ wF, wF = (((((((((((((((w9.setCell ⟨w.heap.size + 1, 0, none⟩ (.int .i64 5)).setCell ⟨w.heap.size + 1, 1, none⟩ (.int .i64 2)).setCell ⟨w.heap.size + 1, 2, none⟩ (.int .i64 (l.length : Int))).setCell ⟨w.heap.size + 1, 3, none⟩ (.int .i64 (nnI l : Int))).setCell ⟨w.heap.size + 1, 4, none⟩ (.int .i64 0)).setCell ⟨w.heap.size + 1, 5, none⟩ (.int .i64 0)).setCell ⟨w.heap.size + 1, 6, none⟩ (.int .i64 0)).setCell ⟨w.heap.size + 1, 7, none⟩ (.slice none 0 0)).setCell ⟨w.heap.size + 1, 8, none⟩ (.slice none 0 0)).setCell ⟨w.heap.size + 1, 9, none⟩ (.slice none 0 0)).setCell ⟨w.heap.size + 1, 10, none⟩ (.int .i64 0)).setCell ⟨w.heap.size + 1, 11, none⟩ (.slice none 0 0)).setCell ⟨w.heap.size + 1, 12, none⟩ (.slice none 0 0)).setCell ⟨w.heap.size + 1, 13, none⟩ (.slice none 0 0)).setCell ⟨w.heap.size + 1, 14, none⟩ (.int .i64 0)) := ⟨_, rfl⟩
    rw [← hwF]
    have hfin : wF.heap[(w.heap.size + 1)]? = some (.cells #[.int .i64 5, .int .i64 2, .int .i64 (l.length : Int), .int .i64 (nnI l : Int), .int .i64 0, .int .i64 0, .int .i64 0, .slice none 0 0, .slice none 0 0, .slice none 0 0, .int .i64 0, .slice none 0 0, .slice none 0 0, .slice none 0 0, .int .i64 0] 54 (0, 0)) := by
      rw [hwF]
      have h := (blk_set (blk_set (blk_set (blk_set (blk_set (blk_set (blk_set (blk_set (blk_set (blk_set (blk_set (blk_set (blk_set (blk_set (blk_set HBZ9.out 0 (.int .i64 5)) 1 (.int .i64 2)) 2 (.int .i64 (l.length : Int))) 3 (.int .i64 (nnI l : Int))) 4 (.int .i64 0)) 5 (.int .i64 0)) 6 (.int .i64 0)) 7 (.slice none 0 0)) 8 (.slice none 0 0)) 9 (.slice none 0 0)) 10 (.int .i64 0)) 11 (.slice none 0 0)) 12 (.slice none 0 0)) 13 (.slice none 0 0)) 14 (.int .i64 0))
      simp only [List.setIfInBounds_toArray, List.set_cons_succ, List.set_cons_zero] at h
      exact h
    have hgf : w9.grownBy wF (some (w.heap.size + 1)) := by rw [hwF]; exact gb_setCell (gb_setCell (gb_setCell (gb_setCell (gb_setCell (gb_setCell (gb_setCell (gb_setCell (gb_setCell (gb_setCell (gb_setCell (gb_setCell (gb_setCell (gb_setCell (gb_setCell (gb_refl w9 (some (w.heap.size + 1))) (.inl rfl) _) (.inl rfl) _) (.inl rfl) _) (.inl rfl) _) (.inl rfl) _) (.inl rfl) _) (.inl rfl) _) (.inl rfl) _) (.inl rfl) _) (.inl rfl) _) (.inl rfl) _) (.inl rfl) _) (.inl rfl) _) (.inl rfl) _) (.inl rfl) _
    clear hwF
    have m0 : wF.cell? ⟨w.heap.size + 1, 0, none⟩ = some (.int .i64 5) := by rw [blk_cell hfin]; rfl
    have m1 : wF.cell? ⟨w.heap.size + 1, 1, none⟩ = some (.int .i64 2) := by rw [blk_cell hfin]; rfl
    have m2 : wF.cell? ⟨w.heap.size + 1, 2, none⟩ = some (.int .i64 (l.length : Int)) := by rw [blk_cell hfin]; rfl
    have m3 : wF.cell? ⟨w.heap.size + 1, 3, none⟩ = some (.int .i64 (nnI l : Int)) := by rw [blk_cell hfin]; rfl
    have m4 : wF.cell? ⟨w.heap.size + 1, 4, none⟩ = some (.int .i64 0) := by rw [blk_cell hfin]; rfl
    have m5 : wF.cell? ⟨w.heap.size + 1, 5, none⟩ = some (.int .i64 0) := by rw [blk_cell hfin]; rfl
    have m6 : wF.cell? ⟨w.heap.size + 1, 6, none⟩ = some (.int .i64 0) := by rw [blk_cell hfin]; rfl
    have m7 : wF.cell? ⟨w.heap.size + 1, 7, none⟩ = some (.slice none 0 0) := by rw [blk_cell hfin]; rfl
    have m8 : wF.cell? ⟨w.heap.size + 1, 8, none⟩ = some (.slice none 0 0) := by rw [blk_cell hfin]; rfl
    have m9 : wF.cell? ⟨w.heap.size + 1, 9, none⟩ = some (.slice none 0 0) := by rw [blk_cell hfin]; rfl
    have m10 : wF.cell? ⟨w.heap.size + 1, 10, none⟩ = some (.int .i64 0) := by rw [blk_cell hfin]; rfl
    have m11 : wF.cell? ⟨w.heap.size + 1, 11, none⟩ = some (.slice none 0 0) := by rw [blk_cell hfin]; rfl
    have m12 : wF.cell? ⟨w.heap.size + 1, 12, none⟩ = some (.slice none 0 0) := by rw [blk_cell hfin]; rfl
    have m13 : wF.cell? ⟨w.heap.size + 1, 13, none⟩ = some (.slice none 0 0) := by rw [blk_cell hfin]; rfl
    have m14 : wF.cell? ⟨w.heap.size + 1, 14, none⟩ = some (.int .i64 0) := by rw [blk_cell hfin]; rfl
    refine bodyPost_ret (v := .agg #[.int .i64 5, .int .i64 2, .int .i64 (l.length : Int), .int .i64 (nnI l : Int), .int .i64 0, .int .i64 0, .int .i64 0, .slice none 0 0, .slice none 0 0, .slice none 0 0, .int .i64 0, .slice none 0 0, .slice none 0 0, .slice none 0 0, .int .i64 0]) (by simp [results, Tryz.results62, go_sem, m0, m1, m2, m3, m4, m5, m6, m7, m8, m9, m10, m11, m12, m13, m14]) rfl ?_
    exact ⟨none, 0, none, 0, none, 0, [], rfl, vow_emp8 wF, by simp, gb_trans HGC.out hgf (.inr (.inr ⟨_, rfl, by omega⟩))⟩
end Go.Proofs.YtgepejnooghjbaaGreat
