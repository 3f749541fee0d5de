/-
  agg's average of a total: rounded down.
-/
import Derived.Test.YtgepejnooghjbaaGreatQan
import Derived.Test.YtgepejnooghjbaaGreatQal
import Derived.Shelf.Strconv.Itoa0
import Derived.Test.YtgepejnooghjbaaGreatProg
import Derived.Test.YtgepejnooghjbaaGreatQak
import Derived.Lib.ItoaNum
import Derived.Deep.QuietTactic
import Derived.BigQuiet

namespace Go.Proofs.YtgepejnooghjbaaGreat
open Go.RowKit
attribute [local go_sem ↓] Go.wp_at_zero Go.wp_at_succ

/-- An Acc of numbers, in memory of its own. -/
def AccC (op T n s hi lo er : Int) (F : Vl) (w : World) (e : Ending) (w' : World) : Prop := ∃ pA pc qA qc rA rc sA sc tA tc uA uc f, e = .returned (.agg #[.int .i64 op, .int .i64 T, .int .i64 n, .int .i64 s, .int .i64 hi, .int .i64 lo, .int .i64 F.t, .slice pA F.n.length pc, .slice qA F.s.length qc, .slice rA F.l.length rc, .int .i64 0, .slice sA 0 sc, .slice tA 0 tc, .slice uA 0 uc, .int .i64 er]) ∧ VOw w' F [.int .i64 F.t, .slice pA F.n.length pc, .slice qA F.s.length qc, .slice rA F.l.length rc] f ∧ (∀ b ∈ f, w.heap.size ≤ b) ∧ w.grownBy w' none
set_option maxHeartbeats 4000000 in
set_option maxRecDepth 100000 in
theorem aclone_any (op T n s hi lo er : Int) (F : Vl) (w : World) (B : Nat) (fA : Option Addr) (fc : Nat) (gA : Option Addr) (gc : Nat) (hA : Option Addr) (hc : Nat) (hF : F.tot ≤ 500000) (hB : B ≤ w.heap.size) (h : VB w B F fA fc gA gc hA hc) :
    Calls Tryz.prog 63 #[.agg #[.int .i64 op, .int .i64 T, .int .i64 n, .int .i64 s, .int .i64 hi, .int .i64 lo, .int .i64 F.t, .slice fA F.n.length fc, .slice gA F.s.length gc, .slice hA F.l.length hc, .int .i64 0, .slice none 0 0, .slice none 0 0, .slice none 0 0, .int .i64 er]] w (AccC op T n s hi lo er F w) := by
  obtain ⟨wa, hwa⟩ : ∃ wa, wa = (w.alloc (.cells #[.int .i64 op, .int .i64 T, .int .i64 n, .int .i64 s, .int .i64 hi, .int .i64 lo, .int .i64 F.t, .slice fA F.n.length fc, .slice gA F.s.length gc, .slice hA F.l.length hc, .int .i64 0, .slice none 0 0, .slice none 0 0, .slice none 0 0, .int .i64 er] 54)).alloc (.cells #[.int .i64 0, .int .i64 0, .int .i64 0, .int .i64 0, .int .i64 0, .int .i64 0, .int .i64 0, .slice none 0 0, .slice none 0 0, .slice none 0 0, .int .i64 0, .slice none 0 0, .slice none 0 0, .slice none 0 0, .int .i64 0] 54) := ⟨_, rfl⟩
  have ha : wa.heap[w.heap.size]? = some (.cells #[.int .i64 op, .int .i64 T, .int .i64 n, .int .i64 s, .int .i64 hi, .int .i64 lo, .int .i64 F.t, .slice fA F.n.length fc, .slice gA F.s.length gc, .slice hA F.l.length hc, .int .i64 0, .slice none 0 0, .slice none 0 0, .slice none 0 0, .int .i64 er] 54 (0, 0)) := by rw [hwa]; exact (Below.heap_alloc _ _ _ (by rw [World.size_alloc]; omega)).trans (heap_alloc_new w _)
  have hz : wa.heap[w.heap.size + 1]? = some (.cells #[.int .i64 0, .int .i64 0, .int .i64 0, .int .i64 0, .int .i64 0, .int .i64 0, .int .i64 0, .slice none 0 0, .slice none 0 0, .slice none 0 0, .int .i64 0, .slice none 0 0, .slice none 0 0, .slice none 0 0, .int .i64 0] 54 (0, 0)) := by rw [hwa]; have := heap_alloc_new (w.alloc (.cells #[.int .i64 op, .int .i64 T, .int .i64 n, .int .i64 s, .int .i64 hi, .int .i64 lo, .int .i64 F.t, .slice fA F.n.length fc, .slice gA F.s.length gc, .slice hA F.l.length hc, .int .i64 0, .slice none 0 0, .slice none 0 0, .slice none 0 0, .int .i64 er] 54)) (.cells #[.int .i64 0, .int .i64 0, .int .i64 0, .int .i64 0, .int .i64 0, .int .i64 0, .int .i64 0, .slice none 0 0, .slice none 0 0, .slice none 0 0, .int .i64 0, .slice none 0 0, .slice none 0 0, .slice none 0 0, .int .i64 0] 54); rwa [World.size_alloc] at this
  have HBA := hide ha
  have HBZ := hide hz
  have HSZ := hide (show wa.heap.size = w.heap.size + 2 by rw [hwa]; simp)
  have hga : w.grownBy wa none := by rw [hwa]; exact gb_alloc (gb_alloc (gb_refl w none) _) _
  have HG := hide hga
  have HWE := hide hwa
  have HCF := hide (fun w2 (hg : wa.grownBy w2 none) => vClone_any F w2 B fA fc gA gc hA hc (by omega) (Nat.le_trans hB (gb_trans hga hg (.inl rfl)).size) (h.gb (gb_trans hga hg (.inl rfl)) hB))
  have HCL := hide (fun w2 (_ : wa.grownBy w2 none) => (show Calls Tryz.prog 89 #[.agg #[.int .i64 0, .slice none 0 0, .slice none 0 0, .slice none 0 0]] w2 (NewV emp8 w2) from vClone_any emp8 w2 0 none 0 none 0 none 0 (by decide) (Nat.zero_le _) ⟨Rd.nil_, Rd.nil_, ⟨[], Rd.nil_, rfl⟩, Nat.le_refl _, Nat.le_refl _, Nat.le_refl _⟩))
  clear ha hz hwa hga hF hB h
  go_enter Tryz.func63, Tryz.ntmps63
  go_upto_region 1 with fail
  rw [← HWE.out]
  refine wp_region_facts' 7 (by kernel_rfl) (by kernel_rfl) ?_
  intro A O W L HA HO HW HL
  simp only [List.take_succ_cons, List.take_zero]
  have HS := hide (show A.tmps.size = 12 by rw [HA.out]; rfl)
  have HGW := hide (show wa.grownBy W none by rw [HW.out]; exact gb_drew (gb_refl wa none))
  have A1 := hide (show A.eval (.tmp 1) = .pointer (some ⟨w.heap.size, 0, none⟩) by rw [HA.out]; rfl)
  -- slot 3
  refine wpFacts_lit (.pointer (some ⟨w.heap.size, 6, none⟩)) rfl ?_ ?_
  · intro a wq hw hl
    have e1 : a.tmps[1]?.getD undef = .pointer (some ⟨w.heap.size, 0, none⟩) := (hl 1 (by first | (simp [Op.operands]; done) | simp [Op.operands, Call.operands]) (by rw [HS.out]; decide)).trans A1.out
    clear hl
    go_simp
  -- slot 4
  refine wpFacts_lit (.agg #[.int .i64 F.t, .slice fA F.n.length fc, .slice gA F.s.length gc, .slice hA F.l.length hc]) rfl ?_ ?_
  · intro a wq hw hl
    have e3 : a.tmps[3]?.getD undef = .pointer (some ⟨w.heap.size, 6, none⟩) := hl 3 (by first | (simp [Op.operands]; done) | simp [Op.operands, Call.operands]) (by rw [HS.out]; decide)
    have hbA := blk_keep HBA.out (gb_trans HGW.out hw (.inl rfl)) (by simp)
    have c0 : wq.cell? ⟨w.heap.size, 6, none⟩ = some (.int .i64 F.t) := by rw [blk_cell hbA]; rfl
    have c1 : wq.cell? ⟨w.heap.size, 7, none⟩ = some (.slice fA F.n.length fc) := by rw [blk_cell hbA]; rfl
    have c2 : wq.cell? ⟨w.heap.size, 8, none⟩ = some (.slice gA F.s.length gc) := by rw [blk_cell hbA]; rfl
    have c3 : wq.cell? ⟨w.heap.size, 9, none⟩ = some (.slice hA F.l.length hc) := by rw [blk_cell hbA]; rfl
    clear hbA
    clear hl
    go_simp
  -- slot 5
  refine wpFacts_step (NewF wa.heap.size F) rfl (NewF.up _ _) ?_ ?_
  · intro a wq hw hl
    have e4 : a.tmps[4]?.getD undef = .agg #[.int .i64 F.t, .slice fA F.n.length fc, .slice gA F.s.length gc, .slice hA F.l.length hc] := hl 4 (by first | (simp [Op.operands]; done) | simp [Op.operands, Call.operands]) (by rw [HS.out]; decide)
    clear hl
    go_simp
    refine ⟨gb_refl _ none, (HCF.out wq (gb_trans HGW.out hw (.inl rfl))).mono fun _ _ h => ?_⟩
    obtain ⟨x9, h1, h2, h3⟩ := NewF.of (base := wa.heap.size) ((gb_trans HGW.out hw (.inl rfl))).size h
    exact ⟨x9, h1, h2, h3⟩
  -- slot 6
  refine wpFacts_lit (.pointer (some ⟨w.heap.size, 10, none⟩)) rfl ?_ ?_
  · intro a wq hw hl
    have e1 : a.tmps[1]?.getD undef = .pointer (some ⟨w.heap.size, 0, none⟩) := (hl 1 (by first | (simp [Op.operands]; done) | simp [Op.operands, Call.operands]) (by rw [HS.out]; decide)).trans A1.out
    clear hl
    go_simp
  -- slot 7
  refine wpFacts_lit (.agg #[.int .i64 0, .slice none 0 0, .slice none 0 0, .slice none 0 0]) rfl ?_ ?_
  · intro a wq hw hl
    have e6 : a.tmps[6]?.getD undef = .pointer (some ⟨w.heap.size, 10, none⟩) := hl 6 (by first | (simp [Op.operands]; done) | simp [Op.operands, Call.operands]) (by rw [HS.out]; decide)
    have hbA := blk_keep HBA.out (gb_trans HGW.out hw (.inl rfl)) (by simp)
    have c0 : wq.cell? ⟨w.heap.size, 10, none⟩ = some (.int .i64 0) := by rw [blk_cell hbA]; rfl
    have c1 : wq.cell? ⟨w.heap.size, 11, none⟩ = some (.slice none 0 0) := by rw [blk_cell hbA]; rfl
    have c2 : wq.cell? ⟨w.heap.size, 12, none⟩ = some (.slice none 0 0) := by rw [blk_cell hbA]; rfl
    have c3 : wq.cell? ⟨w.heap.size, 13, none⟩ = some (.slice none 0 0) := by rw [blk_cell hbA]; rfl
    clear hbA
    clear hl
    go_simp
  -- slot 8
  refine wpFacts_step (NewF wa.heap.size emp8) rfl (NewF.up _ _) ?_ ?_
  · intro a wq hw hl
    have e7 : a.tmps[7]?.getD undef = .agg #[.int .i64 0, .slice none 0 0, .slice none 0 0, .slice none 0 0] := hl 7 (by first | (simp [Op.operands]; done) | simp [Op.operands, Call.operands]) (by rw [HS.out]; decide)
    clear hl
    go_simp
    refine ⟨gb_refl _ none, (HCL.out wq (gb_trans HGW.out hw (.inl rfl))).mono fun _ _ h => ?_⟩
    obtain ⟨x9, h1, h2, h3⟩ := NewF.of (base := wa.heap.size) ((gb_trans HGW.out hw (.inl rfl))).size h
    exact ⟨x9, h1, h2, h3⟩
  -- slot 9
  refine wpFacts_lit (.pointer (some ⟨w.heap.size, 6, none⟩)) rfl ?_ ?_
  · intro a wq hw hl
    have e1 : a.tmps[1]?.getD undef = .pointer (some ⟨w.heap.size, 0, none⟩) := (hl 1 (by first | (simp [Op.operands]; done) | simp [Op.operands, Call.operands]) (by rw [HS.out]; decide)).trans A1.out
    clear hl
    go_simp
  refine HL.out _ (fun a' wz hc => ?_)
  have h5 : (NewF wa.heap.size F) (a'.eval (.tmp 5)) wz := hc.fact 5 (by rw [HS.out]; decide)
  have h8 : (NewF wa.heap.size emp8) (a'.eval (.tmp 8)) wz := hc.fact 8 (by rw [HS.out]; decide)
  have e9 : a'.eval (.tmp 9) = .pointer (some ⟨w.heap.size, 6, none⟩) := hc.fact 9 (by rw [HS.out]; decide)
  have hgwz := gb_trans HGW.out hc.grown (.inl rfl)
  have hfr := hc.frame [3, 4, 5, 6, 7, 8, 9, 10] (by rw [HO.out]; kernel_rfl)
  rw [hfr]
  clear hfr hc
  rw [HA.out]
  clear HA HO HL HW HS HGW A1
  clear A O W L
  simp only [List.drop_succ_cons, List.drop_zero, List.foldl_cons, List.foldl_nil, Act.put, List.setIfInBounds_toArray, List.set_cons_succ, List.set_cons_zero]
  rw [e9]
  generalize a'.eval (.tmp 3) = x3
  generalize a'.eval (.tmp 4) = x4
  generalize a'.eval (.tmp 5) = x5 at h5 ⊢
  generalize a'.eval (.tmp 6) = x6
  generalize a'.eval (.tmp 7) = x7
  generalize a'.eval (.tmp 8) = x8 at h8 ⊢
  generalize a'.eval (.tmp 10) = x10
  clear e9
  clear a'
  obtain ⟨pA, pc, qA, qc, rA, rc, f5, e5, ho5, hn5, hf5⟩ := h5
  obtain ⟨sA, sc, tA, tc, uA, uc, f8, e8, ho8, hn8, hf8⟩ := h8
  subst e5
  replace e8 : x8 = .agg #[.int .i64 0, .slice sA 0 sc, .slice tA 0 tc, .slice uA 0 uc] := e8
  subst e8
  have HO5 := hide ho5
  have HF5 := hide hf5
  have HGZ := hide hgwz
  have haz := blk_keep HBA.out hgwz (by simp)
  have HBAz := hide haz
  have HBZz := hide (blk_keep HBZ.out hgwz (by simp))
  clear ho5 hn5 hf5 ho8 hn8 hf8 hgwz HCF HCL HBA HBZ
  have a0 : wz.cell? ⟨w.heap.size, 0, none⟩ = some (.int .i64 op) := by rw [blk_cell haz]; rfl
  have a1 : wz.cell? ⟨w.heap.size, 1, none⟩ = some (.int .i64 T) := by rw [blk_cell haz]; rfl
  have a2 : wz.cell? ⟨w.heap.size, 2, none⟩ = some (.int .i64 n) := by rw [blk_cell haz]; rfl
  have a3 : wz.cell? ⟨w.heap.size, 3, none⟩ = some (.int .i64 s) := by rw [blk_cell haz]; rfl
  have a4 : wz.cell? ⟨w.heap.size, 4, none⟩ = some (.int .i64 hi) := by rw [blk_cell haz]; rfl
  have a5 : wz.cell? ⟨w.heap.size, 5, none⟩ = some (.int .i64 lo) := by rw [blk_cell haz]; rfl
  have a6 : wz.cell? ⟨w.heap.size, 6, none⟩ = some (.int .i64 F.t) := by rw [blk_cell haz]; rfl
  have a7 : wz.cell? ⟨w.heap.size, 7, none⟩ = some (.slice fA F.n.length fc) := by rw [blk_cell haz]; rfl
  have a8 : wz.cell? ⟨w.heap.size, 8, none⟩ = some (.slice gA F.s.length gc) := by rw [blk_cell haz]; rfl
  have a9 : wz.cell? ⟨w.heap.size, 9, none⟩ = some (.slice hA F.l.length hc) := by rw [blk_cell haz]; rfl
  have a10 : wz.cell? ⟨w.heap.size, 10, none⟩ = some (.int .i64 0) := by rw [blk_cell haz]; rfl
  have a11 : wz.cell? ⟨w.heap.size, 11, none⟩ = some (.slice none 0 0) := by rw [blk_cell haz]; rfl
  have a12 : wz.cell? ⟨w.heap.size, 12, none⟩ = some (.slice none 0 0) := by rw [blk_cell haz]; rfl
  have a13 : wz.cell? ⟨w.heap.size, 13, none⟩ = some (.slice none 0 0) := by rw [blk_cell haz]; rfl
  have a14 : wz.cell? ⟨w.heap.size, 14, none⟩ = some (.int .i64 er) := by rw [blk_cell haz]; rfl
  have z0 := blk_frozen haz 0
  have z1 := blk_frozen haz 1
  have z2 := blk_frozen haz 2
  have z3 := blk_frozen haz 3
  have z4 := blk_frozen haz 4
  have z5 := blk_frozen haz 5
  have z6 := blk_frozen haz 6
  have z7 := blk_frozen haz 7
  have z8 := blk_frozen haz 8
  have z9 := blk_frozen haz 9
  have z10 := blk_frozen haz 10
  have z11 := blk_frozen haz 11
  have z12 := blk_frozen haz 12
  have z13 := blk_frozen haz 13
  have z14 := blk_frozen haz 14
  clear haz
  go_upto_region 2 with fail
  obtain ⟨w9, hw9⟩ : ∃ w9, w9 = ((((((((wz.setCell ⟨w.heap.size, 6, none⟩ (.int .i64 F.t)).setCell ⟨w.heap.size, 7, none⟩ (.slice pA F.n.length pc)).setCell ⟨w.heap.size, 8, none⟩ (.slice qA F.s.length qc)).setCell ⟨w.heap.size, 9, none⟩ (.slice rA F.l.length rc)).setCell ⟨w.heap.size, 10, none⟩ (.int .i64 0)).setCell ⟨w.heap.size, 11, none⟩ (.slice sA 0 sc)).setCell ⟨w.heap.size, 12, none⟩ (.slice tA 0 tc)).setCell ⟨w.heap.size, 13, none⟩ (.slice uA 0 uc)) := ⟨_, rfl⟩
  rw [← hw9]
  have ha9 : w9.heap[w.heap.size]? = some (.cells #[.int .i64 op, .int .i64 T, .int .i64 n, .int .i64 s, .int .i64 hi, .int .i64 lo, .int .i64 F.t, .slice pA F.n.length pc, .slice qA F.s.length qc, .slice rA F.l.length rc, .int .i64 0, .slice sA 0 sc, .slice tA 0 tc, .slice uA 0 uc, .int .i64 er] 54 (0, 0)) := by
    rw [hw9]
    have h := (blk_set (blk_set (blk_set (blk_set (blk_set (blk_set (blk_set (blk_set HBAz.out 6 (.int .i64 F.t)) 7 (.slice pA F.n.length pc)) 8 (.slice qA F.s.length qc)) 9 (.slice rA F.l.length rc)) 10 (.int .i64 0)) 11 (.slice sA 0 sc)) 12 (.slice tA 0 tc)) 13 (.slice uA 0 uc))
    simp only [List.setIfInBounds_toArray, List.set_cons_succ, List.set_cons_zero] at h
    exact h
  have hgz9 : wz.grownBy w9 (some w.heap.size) := by rw [hw9]; exact gb_setCell (gb_setCell (gb_setCell (gb_setCell (gb_setCell (gb_setCell (gb_setCell (gb_setCell (gb_refl wz (some w.heap.size)) (.inl rfl) _) (.inl rfl) _) (.inl rfl) _) (.inl rfl) _) (.inl rfl) _) (.inl rfl) _) (.inl rfl) _) (.inl rfl) _
  have hz9 : w9.heap[w.heap.size + 1]? = some (.cells #[.int .i64 0, .int .i64 0, .int .i64 0, .int .i64 0, .int .i64 0, .int .i64 0, .int .i64 0, .slice none 0 0, .slice none 0 0, .slice none 0 0, .int .i64 0, .slice none 0 0, .slice none 0 0, .slice none 0 0, .int .i64 0] 54 (0, 0)) := blk_keep HBZz.out hgz9 (by intro e; injection e with e; omega)
  have HGZ9 := hide hgz9
  have HBZ9 := hide hz9
  clear hw9 hgz9 a0 a1 a2 a3 a4 a5 a6 a7 a8 a9 a10 a11 a12 a13 a14 z0 z1 z2 z3 z4 z5 z6 z7 z8 z9 z10 z11 z12 z13 z14
  have a0 : w9.cell? ⟨w.heap.size, 0, none⟩ = some (.int .i64 op) := by rw [blk_cell ha9]; rfl
  have a1 : w9.cell? ⟨w.heap.size, 1, none⟩ = some (.int .i64 T) := by rw [blk_cell ha9]; rfl
  have a2 : w9.cell? ⟨w.heap.size, 2, none⟩ = some (.int .i64 n) := by rw [blk_cell ha9]; rfl
  have a3 : w9.cell? ⟨w.heap.size, 3, none⟩ = some (.int .i64 s) := by rw [blk_cell ha9]; rfl
  have a4 : w9.cell? ⟨w.heap.size, 4, none⟩ = some (.int .i64 hi) := by rw [blk_cell ha9]; rfl
  have a5 : w9.cell? ⟨w.heap.size, 5, none⟩ = some (.int .i64 lo) := by rw [blk_cell ha9]; rfl
  have a6 : w9.cell? ⟨w.heap.size, 6, none⟩ = some (.int .i64 F.t) := by rw [blk_cell ha9]; rfl
  have a7 : w9.cell? ⟨w.heap.size, 7, none⟩ = some (.slice pA F.n.length pc) := by rw [blk_cell ha9]; rfl
  have a8 : w9.cell? ⟨w.heap.size, 8, none⟩ = some (.slice qA F.s.length qc) := by rw [blk_cell ha9]; rfl
  have a9 : w9.cell? ⟨w.heap.size, 9, none⟩ = some (.slice rA F.l.length rc) := by rw [blk_cell ha9]; rfl
  have a10 : w9.cell? ⟨w.heap.size, 10, none⟩ = some (.int .i64 0) := by rw [blk_cell ha9]; rfl
  have a11 : w9.cell? ⟨w.heap.size, 11, none⟩ = some (.slice sA 0 sc) := by rw [blk_cell ha9]; rfl
  have a12 : w9.cell? ⟨w.heap.size, 12, none⟩ = some (.slice tA 0 tc) := by rw [blk_cell ha9]; rfl
  have a13 : w9.cell? ⟨w.heap.size, 13, none⟩ = some (.slice uA 0 uc) := by rw [blk_cell ha9]; rfl
  have a14 : w9.cell? ⟨w.heap.size, 14, none⟩ = some (.int .i64 er) := by rw [blk_cell ha9]; rfl
  have y0 : w9.cell? ⟨(w.heap.size + 1), 0, none⟩ = some (.int .i64 0) := by rw [blk_cell hz9]; rfl
  have y1 : w9.cell? ⟨(w.heap.size + 1), 1, none⟩ = some (.int .i64 0) := by rw [blk_cell hz9]; rfl
  have y2 : w9.cell? ⟨(w.heap.size + 1), 2, none⟩ = some (.int .i64 0) := by rw [blk_cell hz9]; rfl
  have y3 : w9.cell? ⟨(w.heap.size + 1), 3, none⟩ = some (.int .i64 0) := by rw [blk_cell hz9]; rfl
  have y4 : w9.cell? ⟨(w.heap.size + 1), 4, none⟩ = some (.int .i64 0) := by rw [blk_cell hz9]; rfl
  have y5 : w9.cell? ⟨(w.heap.size + 1), 5, none⟩ = some (.int .i64 0) := by rw [blk_cell hz9]; rfl
  have y6 : w9.cell? ⟨(w.heap.size + 1), 6, none⟩ = some (.int .i64 0) := by rw [blk_cell hz9]; rfl
  have y7 : w9.cell? ⟨(w.heap.size + 1), 7, none⟩ = some (.slice none 0 0) := by rw [blk_cell hz9]; rfl
  have y8 : w9.cell? ⟨(w.heap.size + 1), 8, none⟩ = some (.slice none 0 0) := by rw [blk_cell hz9]; rfl
  have y9 : w9.cell? ⟨(w.heap.size + 1), 9, none⟩ = some (.slice none 0 0) := by rw [blk_cell hz9]; rfl
  have y10 : w9.cell? ⟨(w.heap.size + 1), 10, none⟩ = some (.int .i64 0) := by rw [blk_cell hz9]; rfl
  have y11 : w9.cell? ⟨(w.heap.size + 1), 11, none⟩ = some (.slice none 0 0) := by rw [blk_cell hz9]; rfl
  have y12 : w9.cell? ⟨(w.heap.size + 1), 12, none⟩ = some (.slice none 0 0) := by rw [blk_cell hz9]; rfl
  have y13 : w9.cell? ⟨(w.heap.size + 1), 13, none⟩ = some (.slice none 0 0) := by rw [blk_cell hz9]; rfl
  have y14 : w9.cell? ⟨(w.heap.size + 1), 14, none⟩ = some (.int .i64 0) := by rw [blk_cell hz9]; rfl
  have x0 := blk_frozen hz9 0
  have x1 := blk_frozen hz9 1
  have x2 := blk_frozen hz9 2
  have x3 := blk_frozen hz9 3
  have x4 := blk_frozen hz9 4
  have x5 := blk_frozen hz9 5
  have x6 := blk_frozen hz9 6
  have x7 := blk_frozen hz9 7
  have x8 := blk_frozen hz9 8
  have x9 := blk_frozen hz9 9
  have x10 := blk_frozen hz9 10
  have x11 := blk_frozen hz9 11
  have x12 := blk_frozen hz9 12
  have x13 := blk_frozen hz9 13
  have x14 := blk_frozen hz9 14
  clear ha9 hz9
  go_wp2_with fail
  obtain ⟨wF, hwF⟩ : ∃ wF, wF = (((((((((((((((w9.setCell ⟨w.heap.size + 1, 0, none⟩ (.int .i64 op)).setCell ⟨w.heap.size + 1, 1, none⟩ (.int .i64 T)).setCell ⟨w.heap.size + 1, 2, none⟩ (.int .i64 n)).setCell ⟨w.heap.size + 1, 3, none⟩ (.int .i64 s)).setCell ⟨w.heap.size + 1, 4, none⟩ (.int .i64 hi)).setCell ⟨w.heap.size + 1, 5, none⟩ (.int .i64 lo)).setCell ⟨w.heap.size + 1, 6, none⟩ (.int .i64 F.t)).setCell ⟨w.heap.size + 1, 7, none⟩ (.slice pA F.n.length pc)).setCell ⟨w.heap.size + 1, 8, none⟩ (.slice qA F.s.length qc)).setCell ⟨w.heap.size + 1, 9, none⟩ (.slice rA F.l.length rc)).setCell ⟨w.heap.size + 1, 10, none⟩ (.int .i64 0)).setCell ⟨w.heap.size + 1, 11, none⟩ (.slice sA 0 sc)).setCell ⟨w.heap.size + 1, 12, none⟩ (.slice tA 0 tc)).setCell ⟨w.heap.size + 1, 13, none⟩ (.slice uA 0 uc)).setCell ⟨w.heap.size + 1, 14, none⟩ (.int .i64 er)) := ⟨_, rfl⟩
  rw [← hwF]
  have hfin : wF.heap[(w.heap.size + 1)]? = some (.cells #[.int .i64 op, .int .i64 T, .int .i64 n, .int .i64 s, .int .i64 hi, .int .i64 lo, .int .i64 F.t, .slice pA F.n.length pc, .slice qA F.s.length qc, .slice rA F.l.length rc, .int .i64 0, .slice sA 0 sc, .slice tA 0 tc, .slice uA 0 uc, .int .i64 er] 54 (0, 0)) := by
    rw [hwF]
    have h := (blk_set (blk_set (blk_set (blk_set (blk_set (blk_set (blk_set (blk_set (blk_set (blk_set (blk_set (blk_set (blk_set (blk_set (blk_set HBZ9.out 0 (.int .i64 op)) 1 (.int .i64 T)) 2 (.int .i64 n)) 3 (.int .i64 s)) 4 (.int .i64 hi)) 5 (.int .i64 lo)) 6 (.int .i64 F.t)) 7 (.slice pA F.n.length pc)) 8 (.slice qA F.s.length qc)) 9 (.slice rA F.l.length rc)) 10 (.int .i64 0)) 11 (.slice sA 0 sc)) 12 (.slice tA 0 tc)) 13 (.slice uA 0 uc)) 14 (.int .i64 er))
    simp only [List.setIfInBounds_toArray, List.set_cons_succ, List.set_cons_zero] at h
    exact h
  have hgf : w9.grownBy wF (some (w.heap.size + 1)) := by rw [hwF]; exact gb_setCell (gb_setCell (gb_setCell (gb_setCell (gb_setCell (gb_setCell (gb_setCell (gb_setCell (gb_setCell (gb_setCell (gb_setCell (gb_setCell (gb_setCell (gb_setCell (gb_setCell (gb_refl w9 (some (w.heap.size + 1))) (.inl rfl) _) (.inl rfl) _) (.inl rfl) _) (.inl rfl) _) (.inl rfl) _) (.inl rfl) _) (.inl rfl) _) (.inl rfl) _) (.inl rfl) _) (.inl rfl) _) (.inl rfl) _) (.inl rfl) _) (.inl rfl) _) (.inl rfl) _) (.inl rfl) _
  clear hwF
  have m0 : wF.cell? ⟨w.heap.size + 1, 0, none⟩ = some (.int .i64 op) := by rw [blk_cell hfin]; rfl
  have m1 : wF.cell? ⟨w.heap.size + 1, 1, none⟩ = some (.int .i64 T) := by rw [blk_cell hfin]; rfl
  have m2 : wF.cell? ⟨w.heap.size + 1, 2, none⟩ = some (.int .i64 n) := by rw [blk_cell hfin]; rfl
  have m3 : wF.cell? ⟨w.heap.size + 1, 3, none⟩ = some (.int .i64 s) := by rw [blk_cell hfin]; rfl
  have m4 : wF.cell? ⟨w.heap.size + 1, 4, none⟩ = some (.int .i64 hi) := by rw [blk_cell hfin]; rfl
  have m5 : wF.cell? ⟨w.heap.size + 1, 5, none⟩ = some (.int .i64 lo) := by rw [blk_cell hfin]; rfl
  have m6 : wF.cell? ⟨w.heap.size + 1, 6, none⟩ = some (.int .i64 F.t) := by rw [blk_cell hfin]; rfl
  have m7 : wF.cell? ⟨w.heap.size + 1, 7, none⟩ = some (.slice pA F.n.length pc) := by rw [blk_cell hfin]; rfl
  have m8 : wF.cell? ⟨w.heap.size + 1, 8, none⟩ = some (.slice qA F.s.length qc) := by rw [blk_cell hfin]; rfl
  have m9 : wF.cell? ⟨w.heap.size + 1, 9, none⟩ = some (.slice rA F.l.length rc) := by rw [blk_cell hfin]; rfl
  have m10 : wF.cell? ⟨w.heap.size + 1, 10, none⟩ = some (.int .i64 0) := by rw [blk_cell hfin]; rfl
  have m11 : wF.cell? ⟨w.heap.size + 1, 11, none⟩ = some (.slice sA 0 sc) := by rw [blk_cell hfin]; rfl
  have m12 : wF.cell? ⟨w.heap.size + 1, 12, none⟩ = some (.slice tA 0 tc) := by rw [blk_cell hfin]; rfl
  have m13 : wF.cell? ⟨w.heap.size + 1, 13, none⟩ = some (.slice uA 0 uc) := by rw [blk_cell hfin]; rfl
  have m14 : wF.cell? ⟨w.heap.size + 1, 14, none⟩ = some (.int .i64 er) := by rw [blk_cell hfin]; rfl
  refine bodyPost_ret (v := .agg #[.int .i64 op, .int .i64 T, .int .i64 n, .int .i64 s, .int .i64 hi, .int .i64 lo, .int .i64 F.t, .slice pA F.n.length pc, .slice qA F.s.length qc, .slice rA F.l.length rc, .int .i64 0, .slice sA 0 sc, .slice tA 0 tc, .slice uA 0 uc, .int .i64 er]) (by simp [results, Tryz.results63, go_sem, m0, m1, m2, m3, m4, m5, m6, m7, m8, m9, m10, m11, m12, m13, m14]) rfl ?_
  have hk : ∀ b, b ∈ f5 → wF.heap[b]? = wz.heap[b]? := fun b hb => by
    have h1 := HF5.out b hb
    have h2 := HSZ.out
    have h3 := VOw.lt _ _ _ HO5.out b hb
    exact (hgf.block b (Nat.lt_of_lt_of_le h3 HGZ9.out.size) (by intro e; injection e with e; omega)).trans (HGZ9.out.block b h3 (by intro e; injection e with e; omega))
  exact ⟨pA, pc, qA, qc, rA, rc, sA, sc, tA, tc, uA, uc, f5, rfl, VOw.keep _ _ _ HO5.out hk, fun b hb => by have := HF5.out b hb; have := HSZ.out; omega, gb_trans (gb_trans (gb_trans HG.out HGZ.out (.inl rfl)) HGZ9.out (.inr (.inr ⟨_, rfl, Nat.le_refl _⟩))) hgf (.inr (.inr ⟨_, rfl, by omega⟩))⟩
end Go.Proofs.YtgepejnooghjbaaGreat

namespace Go.Proofs.YtgepejnooghjbaaGreat
open Go.RowKit
attribute [local go_sem ↓] Go.wp_at_zero Go.wp_at_succ

/-- An Acc with a value of its own. -/
def AccF (base : Nat) (op n s sm : Int) (F : Vl) : Fct := fun x w => ∃ fA fc gA gc hA hc f, x = .agg #[.int .i64 op, .int .i64 2, .int .i64 n, .int .i64 s, .int .i64 (sm / 4294967296), .int .i64 (sm % 4294967296), .int .i64 F.t, .slice fA F.n.length fc, .slice gA F.s.length gc, .slice hA F.l.length hc, .int .i64 0, .slice none 0 0, .slice none 0 0, .slice none 0 0, .int .i64 0] ∧ VOw w F [.int .i64 F.t, .slice fA F.n.length fc, .slice gA F.s.length gc, .slice hA F.l.length hc] f ∧ ∀ b ∈ f, base ≤ b
theorem AccF.up (base : Nat) (op n s sm : Int) (F : Vl) : (AccF base op n s sm F).Up := by
  rintro x w w' ⟨fA, fc, gA, gc, hA, hc, f, h1, h2, h3⟩ hg
  exact ⟨fA, fc, gA, gc, hA, hc, f, h1, h2.grow hg, h3⟩
/-- What follows an Acc to which nothing has come. -/
def FolR (op n s sm : Int) (F : Vl) : Prop := ∀ (w : World) (fA : Option Addr) (fc : Nat) (gA : Option Addr) (gc : Nat) (hA : Option Addr) (hc : Nat) (f : List Nat), VOw w F [.int .i64 F.t, .slice fA F.n.length fc, .slice gA F.s.length gc, .slice hA F.l.length hc] f →
  Calls Tryz.prog 61 #[.agg #[.int .i64 op, .int .i64 (-1), .int .i64 0, .int .i64 0, .int .i64 0, .int .i64 0, .int .i64 0, .slice none 0 0, .slice none 0 0, .slice none 0 0, .int .i64 0, .slice none 0 0, .slice none 0 0, .slice none 0 0, .int .i64 0], .agg #[.int .i64 op, .int .i64 2, .int .i64 n, .int .i64 s, .int .i64 (sm / 4294967296), .int .i64 (sm % 4294967296), .int .i64 F.t, .slice fA F.n.length fc, .slice gA F.s.length gc, .slice hA F.l.length hc, .int .i64 0, .slice none 0 0, .slice none 0 0, .slice none 0 0, .int .i64 0]] w fun e w' => (∃ pA pc qA qc rA rc f', e = .returned (.agg #[.int .i64 op, .int .i64 2, .int .i64 n, .int .i64 s, .int .i64 (sm / 4294967296), .int .i64 (sm % 4294967296), .int .i64 F.t, .slice pA F.n.length pc, .slice qA F.s.length qc, .slice rA F.l.length rc, .int .i64 0, .slice none 0 0, .slice none 0 0, .slice none 0 0, .int .i64 0]) ∧ VOw w' F [.int .i64 F.t, .slice pA F.n.length pc, .slice qA F.s.length qc, .slice rA F.l.length rc] f' ∧ ∀ b ∈ f', b ∈ f) ∧ w.grownBy w' none
set_option maxHeartbeats 4000000 in
set_option maxRecDepth 100000 in
theorem add_one (op n s sm : Int) (F v : Vl) (w : World) (r : Nat) (nA : Option Addr) (nc : Nat) (sA : Option Addr) (sc : Nat) (lA : Option Addr) (lc : Nat) (hF : F.tot ≤ 500000) (hr : w.heap[r]? = some (.cells #[.int .i64 v.t, .slice nA v.n.length nc, .slice sA v.s.length sc, .slice lA v.l.length lc] 26 (0, 0)))
    (hpc : ∀ w2, w.grownBy w2 none → Calls Tryz.prog 62 #[.int .i64 op, .agg #[.int .i64 v.t, .slice nA v.n.length nc, .slice sA v.s.length sc, .slice lA v.l.length lc]] w2 (AccP op 2 n s sm F w2)) (hfo : FolR op n s sm F) :
    Calls Tryz.prog 34 #[.agg #[.int .i64 op, .int .i64 (-1), .int .i64 0, .int .i64 0, .int .i64 0, .int .i64 0, .int .i64 0, .slice none 0 0, .slice none 0 0, .slice none 0 0, .int .i64 0, .slice none 0 0, .slice none 0 0, .slice none 0 0, .int .i64 0], .slice (some ⟨r, 0, none⟩) 1 1] w (AccC op 2 n s (sm / 4294967296) (sm % 4294967296) 0 F w) := by
  obtain ⟨wa, hwa⟩ : ∃ wa, wa = (w.alloc (.cells #[.int .i64 op, .int .i64 (-1), .int .i64 0, .int .i64 0, .int .i64 0, .int .i64 0, .int .i64 0, .slice none 0 0, .slice none 0 0, .slice none 0 0, .int .i64 0, .slice none 0 0, .slice none 0 0, .slice none 0 0, .int .i64 0] 54)).alloc (.cells #[.int .i64 0, .int .i64 0, .int .i64 0, .int .i64 0, .int .i64 0, .int .i64 0, .int .i64 0, .slice none 0 0, .slice none 0 0, .slice none 0 0, .int .i64 0, .slice none 0 0, .slice none 0 0, .slice none 0 0, .int .i64 0] 54) := ⟨_, rfl⟩
  have ha : wa.heap[w.heap.size]? = some (.cells #[.int .i64 op, .int .i64 (-1), .int .i64 0, .int .i64 0, .int .i64 0, .int .i64 0, .int .i64 0, .slice none 0 0, .slice none 0 0, .slice none 0 0, .int .i64 0, .slice none 0 0, .slice none 0 0, .slice none 0 0, .int .i64 0] 54 (0, 0)) := by rw [hwa]; exact (Below.heap_alloc _ _ _ (by rw [World.size_alloc]; omega)).trans (heap_alloc_new w _)
  have hz : wa.heap[w.heap.size + 1]? = some (.cells #[.int .i64 0, .int .i64 0, .int .i64 0, .int .i64 0, .int .i64 0, .int .i64 0, .int .i64 0, .slice none 0 0, .slice none 0 0, .slice none 0 0, .int .i64 0, .slice none 0 0, .slice none 0 0, .slice none 0 0, .int .i64 0] 54 (0, 0)) := by rw [hwa]; have := heap_alloc_new (w.alloc (.cells #[.int .i64 op, .int .i64 (-1), .int .i64 0, .int .i64 0, .int .i64 0, .int .i64 0, .int .i64 0, .slice none 0 0, .slice none 0 0, .slice none 0 0, .int .i64 0, .slice none 0 0, .slice none 0 0, .slice none 0 0, .int .i64 0] 54)) (.cells #[.int .i64 0, .int .i64 0, .int .i64 0, .int .i64 0, .int .i64 0, .int .i64 0, .int .i64 0, .slice none 0 0, .slice none 0 0, .slice none 0 0, .int .i64 0, .slice none 0 0, .slice none 0 0, .slice none 0 0, .int .i64 0] 54); rwa [World.size_alloc] at this
  have HBA := hide ha
  have HBZ := hide hz
  have HSZ := hide (show wa.heap.size = w.heap.size + 2 by rw [hwa]; simp)
  have hga : w.grownBy wa none := by rw [hwa]; exact gb_alloc (gb_alloc (gb_refl w none) _) _
  have HG := hide hga
  have HWE := hide hwa
  have HR := hide (blk_keep hr hga (by simp))
  have HPC := hide hpc
  have HFO := hide hfo
  have HF := hide hF
  clear ha hz hwa hga hF hr hpc hfo
  go_enter Tryz.func34, Tryz.ntmps34
  go_upto_region 1 with fail
  rw [← HWE.out]
  go_wp2_with fail
  go_loopw [9] (fun i wr => i = .int .i64 0 ∧ wr = wa ∨ i = .int .i64 1 ∧ ∃ fA fc gA gc hA hc f, wr.heap[w.heap.size]? = some (.cells #[.int .i64 op, .int .i64 2, .int .i64 n, .int .i64 s, .int .i64 (sm / 4294967296), .int .i64 (sm % 4294967296), .int .i64 F.t, .slice fA F.n.length fc, .slice gA F.s.length gc, .slice hA F.l.length hc, .int .i64 0, .slice none 0 0, .slice none 0 0, .slice none 0 0, .int .i64 0] 54 (0, 0)) ∧ wr.heap[w.heap.size + 1]? = some (.cells #[.int .i64 0, .int .i64 0, .int .i64 0, .int .i64 0, .int .i64 0, .int .i64 0, .int .i64 0, .slice none 0 0, .slice none 0 0, .slice none 0 0, .int .i64 0, .slice none 0 0, .slice none 0 0, .slice none 0 0, .int .i64 0] 54 (0, 0)) ∧ VOw wr F [.int .i64 F.t, .slice fA F.n.length fc, .slice gA F.s.length gc, .slice hA F.l.length hc] f ∧ (∀ b ∈ f, w.heap.size + 2 ≤ b) ∧ w.grownBy wr none) (fun i _ => 1 - (intOf i).toNat)
  case atStart => exact .inl ⟨rfl, rfl⟩
  case round =>
    rcases hrel with ⟨rfl, hwr⟩ | ⟨rfl, fA, fc, gA, gc, hA, hc, f, hb, hz, ho, hf, hg⟩
    · subst hwr
      have hrr := HR.out
      obtain ⟨d0, d1, d2, d3⟩ : C4 wr r 0 (.int .i64 v.t) (.slice nA v.n.length nc) (.slice sA v.s.length sc) (.slice lA v.l.length lc) := ⟨by rw [blk_cell hrr]; rfl, by rw [blk_cell hrr]; rfl, by rw [blk_cell hrr]; rfl, by rw [blk_cell hrr]; rfl⟩
      clear hrr
      go_upto_region 4 with fail
      obtain ⟨w4, hw4⟩ : ∃ w4, w4 = wr.alloc (.cells #[.int .i64 v.t, .slice nA v.n.length nc, .slice sA v.s.length sc, .slice lA v.l.length lc] 26) := ⟨_, rfl⟩
      rw [← hw4]
      have hg4 : wr.grownBy w4 none := by rw [hw4]; exact gb_alloc (gb_refl wr none) _
      have HBV4 := hide (show w4.heap[wr.heap.size]? = some (.cells #[.int .i64 v.t, .slice nA v.n.length nc, .slice sA v.s.length sc, .slice lA v.l.length lc] 26 (0, 0)) by rw [hw4]; exact heap_alloc_new wr _)
      have HBA4 := hide (blk_keep HBA.out hg4 (by simp))
      have HBZ4 := hide (blk_keep HBZ.out hg4 (by simp))
      have HG4 := hide (gb_trans HG.out hg4 (.inl rfl))
      have HS4 := hide (Nat.le_trans (Nat.le_of_eq HSZ.out.symm) hg4.size)
      clear hw4 hg4 d0 d1 d2 d3
      refine wp_region_facts' 6 (by kernel_rfl) (by kernel_rfl) ?_
      intro A O W L HA HO HW HL
      simp only [List.take_succ_cons, List.take_zero]
      have HS := hide (show A.tmps.size = 22 by rw [HA.out]; rfl)
      have HGW := hide (show w4.grownBy W none by rw [HW.out]; exact gb_drew (gb_refl w4 none))
      have A2 := hide (show A.eval (.tmp 2) = .pointer (some ⟨w.heap.size, 0, none⟩) by rw [HA.out]; rfl)
      have A6 := hide (show A.eval (.tmp 6) = .pointer (some ⟨wr.heap.size, 0, none⟩) by rw [HA.out]; rfl)
      -- slot 13
      refine wpFacts_lit (.agg #[.int .i64 op, .int .i64 (-1), .int .i64 0, .int .i64 0, .int .i64 0, .int .i64 0, .int .i64 0, .slice none 0 0, .slice none 0 0, .slice none 0 0, .int .i64 0, .slice none 0 0, .slice none 0 0, .slice none 0 0, .int .i64 0]) rfl ?_ ?_
      · intro a wq hw hl
        have e2 : a.tmps[2]?.getD undef = .pointer (some ⟨w.heap.size, 0, none⟩) := (hl 2 (by first | (simp [Op.operands]; done) | simp [Op.operands, Call.operands]) (by rw [HS.out]; decide)).trans A2.out
        have hbA := blk_keep HBA4.out (gb_trans HGW.out hw (.inl rfl)) (by simp)
        have c0 : wq.cell? ⟨w.heap.size, 0, none⟩ = some (.int .i64 op) := by rw [blk_cell hbA]; rfl
        have c1 : wq.cell? ⟨w.heap.size, 1, none⟩ = some (.int .i64 (-1)) := by rw [blk_cell hbA]; rfl
        have c2 : wq.cell? ⟨w.heap.size, 2, none⟩ = some (.int .i64 0) := by rw [blk_cell hbA]; rfl
        have c3 : wq.cell? ⟨w.heap.size, 3, none⟩ = some (.int .i64 0) := by rw [blk_cell hbA]; rfl
        have c4 : wq.cell? ⟨w.heap.size, 4, none⟩ = some (.int .i64 0) := by rw [blk_cell hbA]; rfl
        have c5 : wq.cell? ⟨w.heap.size, 5, none⟩ = some (.int .i64 0) := by rw [blk_cell hbA]; rfl
        have c6 : wq.cell? ⟨w.heap.size, 6, none⟩ = some (.int .i64 0) := by rw [blk_cell hbA]; rfl
        have c7 : wq.cell? ⟨w.heap.size, 7, none⟩ = some (.slice none 0 0) := by rw [blk_cell hbA]; rfl
        have c8 : wq.cell? ⟨w.heap.size, 8, none⟩ = some (.slice none 0 0) := by rw [blk_cell hbA]; rfl
        have c9 : wq.cell? ⟨w.heap.size, 9, none⟩ = some (.slice none 0 0) := by rw [blk_cell hbA]; rfl
        have c10 : wq.cell? ⟨w.heap.size, 10, none⟩ = some (.int .i64 0) := by rw [blk_cell hbA]; rfl
        have c11 : wq.cell? ⟨w.heap.size, 11, none⟩ = some (.slice none 0 0) := by rw [blk_cell hbA]; rfl
        have c12 : wq.cell? ⟨w.heap.size, 12, none⟩ = some (.slice none 0 0) := by rw [blk_cell hbA]; rfl
        have c13 : wq.cell? ⟨w.heap.size, 13, none⟩ = some (.slice none 0 0) := by rw [blk_cell hbA]; rfl
        have c14 : wq.cell? ⟨w.heap.size, 14, none⟩ = some (.int .i64 0) := by rw [blk_cell hbA]; rfl
        clear hbA
        clear hl
        go_simp
      -- slot 14
      refine wpFacts_lit (.pointer (some ⟨w.heap.size, 0, none⟩)) rfl ?_ ?_
      · intro a wq hw hl
        have e2 : a.tmps[2]?.getD undef = .pointer (some ⟨w.heap.size, 0, none⟩) := (hl 2 (by first | (simp [Op.operands]; done) | simp [Op.operands, Call.operands]) (by rw [HS.out]; decide)).trans A2.out
        clear hl
        go_simp
      -- slot 15
      refine wpFacts_lit (.int .i64 op) rfl ?_ ?_
      · intro a wq hw hl
        have e14 : a.tmps[14]?.getD undef = .pointer (some ⟨w.heap.size, 0, none⟩) := hl 14 (by first | (simp [Op.operands]; done) | simp [Op.operands, Call.operands]) (by rw [HS.out]; decide)
        have hbA := blk_keep HBA4.out (gb_trans HGW.out hw (.inl rfl)) (by simp)
        have c0 : wq.cell? ⟨w.heap.size, 0, none⟩ = some (.int .i64 op) := by rw [blk_cell hbA]; rfl
        clear hbA
        clear hl
        go_simp
      -- slot 16
      refine wpFacts_lit (.agg #[.int .i64 v.t, .slice nA v.n.length nc, .slice sA v.s.length sc, .slice lA v.l.length lc]) rfl ?_ ?_
      · intro a wq hw hl
        have e6 : a.tmps[6]?.getD undef = .pointer (some ⟨wr.heap.size, 0, none⟩) := (hl 6 (by first | (simp [Op.operands]; done) | simp [Op.operands, Call.operands]) (by rw [HS.out]; decide)).trans A6.out
        have hbV := blk_keep HBV4.out (gb_trans HGW.out hw (.inl rfl)) (by simp)
        have c0 : wq.cell? ⟨wr.heap.size, 0, none⟩ = some (.int .i64 v.t) := by rw [blk_cell hbV]; rfl
        have c1 : wq.cell? ⟨wr.heap.size, 1, none⟩ = some (.slice nA v.n.length nc) := by rw [blk_cell hbV]; rfl
        have c2 : wq.cell? ⟨wr.heap.size, 2, none⟩ = some (.slice sA v.s.length sc) := by rw [blk_cell hbV]; rfl
        have c3 : wq.cell? ⟨wr.heap.size, 3, none⟩ = some (.slice lA v.l.length lc) := by rw [blk_cell hbV]; rfl
        clear hbV
        clear hl
        go_simp
      -- slot 17
      refine wpFacts_step (AccF w4.heap.size op n s sm F) rfl (AccF.up _ _ _ _ _ _) ?_ ?_
      · intro a wq hw hl
        have e15 : a.tmps[15]?.getD undef = .int .i64 op := hl 15 (by first | (simp [Op.operands]; done) | simp [Op.operands, Call.operands]) (by rw [HS.out]; decide)
        have e16 : a.tmps[16]?.getD undef = .agg #[.int .i64 v.t, .slice nA v.n.length nc, .slice sA v.s.length sc, .slice lA v.l.length lc] := hl 16 (by first | (simp [Op.operands]; done) | simp [Op.operands, Call.operands]) (by rw [HS.out]; decide)
        clear hl
        go_simp
        refine ⟨gb_refl _ none, (HPC.out wq (gb_trans HG4.out (gb_trans HGW.out hw (.inl rfl)) (.inl rfl))).mono fun _ _ h => ?_⟩
        obtain ⟨fA, fc, gA, gc, hA, hc, f7, h1, h2, h3, h4⟩ := h
        exact ⟨_, h1, h4, fA, fc, gA, gc, hA, hc, f7, rfl, h2, fun b hb => Nat.le_trans ((gb_trans HGW.out hw (.inl rfl))).size (h3 b hb)⟩
      -- slot 18
      refine wpFacts_step (AccF w4.heap.size op n s sm F) rfl (AccF.up _ _ _ _ _ _) ?_ ?_
      · intro a wq hw hl
        have e13 : a.tmps[13]?.getD undef = .agg #[.int .i64 op, .int .i64 (-1), .int .i64 0, .int .i64 0, .int .i64 0, .int .i64 0, .int .i64 0, .slice none 0 0, .slice none 0 0, .slice none 0 0, .int .i64 0, .slice none 0 0, .slice none 0 0, .slice none 0 0, .int .i64 0] := hl 13 (by first | (simp [Op.operands]; done) | simp [Op.operands, Call.operands]) (by rw [HS.out]; decide)
        have h17 : (AccF w4.heap.size op n s sm F) (a.tmps[17]?.getD undef) wq := hl 17 (by first | (simp [Op.operands]; done) | simp [Op.operands, Call.operands]) (by rw [HS.out]; decide)
        obtain ⟨fA, fc, gA, gc, hA, hc, f7, e17, ho7, hf7⟩ := h17
        clear hl
        go_simp
        refine ⟨gb_refl _ none, (HFO.out wq fA fc gA gc hA hc f7 ho7).mono fun _ _ h => ?_⟩
        obtain ⟨⟨pA, pc, qA, qc, rA, rc, f9, h1, h2, h3⟩, h4⟩ := h
        exact ⟨_, h1, h4, pA, pc, qA, qc, rA, rc, f9, rfl, h2, fun b hb => hf7 b (h3 b hb)⟩
      refine HL.out _ (fun a' wz hc => ?_)
      have h18 : (AccF w4.heap.size op n s sm F) (a'.eval (.tmp 18)) wz := hc.fact 18 (by rw [HS.out]; decide)
      have hgwz := gb_trans HGW.out hc.grown (.inl rfl)
      have hfr := hc.frame [13, 14, 15, 16, 17, 18] (by rw [HO.out]; kernel_rfl)
      rw [hfr]
      clear hfr hc
      rw [HA.out]
      clear HA HO HL HW HS HGW A2 A6
      clear A O W L
      simp only [List.drop_succ_cons, List.drop_zero, List.foldl_cons, List.foldl_nil, Act.put, List.setIfInBounds_toArray, List.set_cons_succ, List.set_cons_zero]
      generalize a'.eval (.tmp 13) = x13
      generalize a'.eval (.tmp 14) = x14
      generalize a'.eval (.tmp 15) = x15
      generalize a'.eval (.tmp 16) = x16
      generalize a'.eval (.tmp 17) = x17
      generalize a'.eval (.tmp 18) = x18 at h18 ⊢
      clear a'
      obtain ⟨fA, fc, gA, gc, hA, hc, f8, e18, ho8, hf8⟩ := h18
      subst e18
      have HO8 := hide ho8
      have HF8 := hide hf8
      have HGZ := hide hgwz
      have haz := blk_keep HBA4.out hgwz (by simp)
      have HBAz := hide haz
      have HBZz := hide (blk_keep HBZ4.out hgwz (by simp))
      have a0 : wz.cell? ⟨w.heap.size, 0, none⟩ = some (.int .i64 op) := by rw [blk_cell haz]; rfl
      have a1 : wz.cell? ⟨w.heap.size, 1, none⟩ = some (.int .i64 (-1)) := by rw [blk_cell haz]; rfl
      have a2 : wz.cell? ⟨w.heap.size, 2, none⟩ = some (.int .i64 0) := by rw [blk_cell haz]; rfl
      have a3 : wz.cell? ⟨w.heap.size, 3, none⟩ = some (.int .i64 0) := by rw [blk_cell haz]; rfl
      have a4 : wz.cell? ⟨w.heap.size, 4, none⟩ = some (.int .i64 0) := by rw [blk_cell haz]; rfl
      have a5 : wz.cell? ⟨w.heap.size, 5, none⟩ = some (.int .i64 0) := by rw [blk_cell haz]; rfl
      have a6 : wz.cell? ⟨w.heap.size, 6, none⟩ = some (.int .i64 0) := by rw [blk_cell haz]; rfl
      have a7 : wz.cell? ⟨w.heap.size, 7, none⟩ = some (.slice none 0 0) := by rw [blk_cell haz]; rfl
      have a8 : wz.cell? ⟨w.heap.size, 8, none⟩ = some (.slice none 0 0) := by rw [blk_cell haz]; rfl
      have a9 : wz.cell? ⟨w.heap.size, 9, none⟩ = some (.slice none 0 0) := by rw [blk_cell haz]; rfl
      have a10 : wz.cell? ⟨w.heap.size, 10, none⟩ = some (.int .i64 0) := by rw [blk_cell haz]; rfl
      have a11 : wz.cell? ⟨w.heap.size, 11, none⟩ = some (.slice none 0 0) := by rw [blk_cell haz]; rfl
      have a12 : wz.cell? ⟨w.heap.size, 12, none⟩ = some (.slice none 0 0) := by rw [blk_cell haz]; rfl
      have a13 : wz.cell? ⟨w.heap.size, 13, none⟩ = some (.slice none 0 0) := by rw [blk_cell haz]; rfl
      have a14 : wz.cell? ⟨w.heap.size, 14, none⟩ = some (.int .i64 0) := by rw [blk_cell haz]; rfl
      have z0 := blk_frozen haz 0
      have z1 := blk_frozen haz 1
      have z2 := blk_frozen haz 2
      have z3 := blk_frozen haz 3
      have z4 := blk_frozen haz 4
      have z5 := blk_frozen haz 5
      have z6 := blk_frozen haz 6
      have z7 := blk_frozen haz 7
      have z8 := blk_frozen haz 8
      have z9 := blk_frozen haz 9
      have z10 := blk_frozen haz 10
      have z11 := blk_frozen haz 11
      have z12 := blk_frozen haz 12
      have z13 := blk_frozen haz 13
      have z14 := blk_frozen haz 14
      clear haz ho8 hf8 hgwz
      go_wp2_with fail
      go_roundw
      case rel =>
        have hgz9 : wz.grownBy (((((((((((((((wz.setCell ⟨w.heap.size, 0, none⟩ (.int .i64 op)).setCell ⟨w.heap.size, 1, none⟩ (.int .i64 2)).setCell ⟨w.heap.size, 2, none⟩ (.int .i64 n)).setCell ⟨w.heap.size, 3, none⟩ (.int .i64 s)).setCell ⟨w.heap.size, 4, none⟩ (.int .i64 (sm / 4294967296))).setCell ⟨w.heap.size, 5, none⟩ (.int .i64 (sm % 4294967296))).setCell ⟨w.heap.size, 6, none⟩ (.int .i64 F.t)).setCell ⟨w.heap.size, 7, none⟩ (.slice fA F.n.length fc)).setCell ⟨w.heap.size, 8, none⟩ (.slice gA F.s.length gc)).setCell ⟨w.heap.size, 9, none⟩ (.slice hA F.l.length hc)).setCell ⟨w.heap.size, 10, none⟩ (.int .i64 0)).setCell ⟨w.heap.size, 11, none⟩ (.slice none 0 0)).setCell ⟨w.heap.size, 12, none⟩ (.slice none 0 0)).setCell ⟨w.heap.size, 13, none⟩ (.slice none 0 0)).setCell ⟨w.heap.size, 14, none⟩ (.int .i64 0)) (some w.heap.size) := gb_setCell (gb_setCell (gb_setCell (gb_setCell (gb_setCell (gb_setCell (gb_setCell (gb_setCell (gb_setCell (gb_setCell (gb_setCell (gb_setCell (gb_setCell (gb_setCell (gb_setCell (gb_refl wz (some w.heap.size)) (.inl rfl) _) (.inl rfl) _) (.inl rfl) _) (.inl rfl) _) (.inl rfl) _) (.inl rfl) _) (.inl rfl) _) (.inl rfl) _) (.inl rfl) _) (.inl rfl) _) (.inl rfl) _) (.inl rfl) _) (.inl rfl) _) (.inl rfl) _) (.inl rfl) _
        have h := (blk_set (blk_set (blk_set (blk_set (blk_set (blk_set (blk_set (blk_set (blk_set (blk_set (blk_set (blk_set (blk_set (blk_set (blk_set HBAz.out 0 (.int .i64 op)) 1 (.int .i64 2)) 2 (.int .i64 n)) 3 (.int .i64 s)) 4 (.int .i64 (sm / 4294967296))) 5 (.int .i64 (sm % 4294967296))) 6 (.int .i64 F.t)) 7 (.slice fA F.n.length fc)) 8 (.slice gA F.s.length gc)) 9 (.slice hA F.l.length hc)) 10 (.int .i64 0)) 11 (.slice none 0 0)) 12 (.slice none 0 0)) 13 (.slice none 0 0)) 14 (.int .i64 0))
        simp only [List.setIfInBounds_toArray, List.set_cons_succ, List.set_cons_zero] at h
        refine .inr ⟨rfl, fA, fc, gA, gc, hA, hc, f8, h, blk_keep HBZz.out hgz9 (by intro e; injection e with e; omega), VOw.keep _ _ _ HO8.out (fun b hb => hgz9.block b (VOw.lt _ _ _ HO8.out b hb) (by intro e; injection e with e; have := HF8.out b hb; have := HS4.out; omega)), fun b hb => Nat.le_trans HS4.out (HF8.out b hb), gb_trans (gb_trans HG4.out HGZ.out (.inl rfl)) hgz9 (.inr (.inr ⟨_, rfl, Nat.le_refl _⟩))⟩
      case measure => simp [intOf]
    · have HO := hide ho
      have HFB := hide hf
      have HGR := hide hg
      have HBZr := hide hz
      have HCL := hide (aclone_any op 2 n s (sm / 4294967296) (sm % 4294967296) 0 F wr wr.heap.size fA fc gA gc hA hc HF.out (Nat.le_refl _) ho.vb)
      have a0 : wr.cell? ⟨w.heap.size, 0, none⟩ = some (.int .i64 op) := by rw [blk_cell hb]; rfl
      have a1 : wr.cell? ⟨w.heap.size, 1, none⟩ = some (.int .i64 2) := by rw [blk_cell hb]; rfl
      have a2 : wr.cell? ⟨w.heap.size, 2, none⟩ = some (.int .i64 n) := by rw [blk_cell hb]; rfl
      have a3 : wr.cell? ⟨w.heap.size, 3, none⟩ = some (.int .i64 s) := by rw [blk_cell hb]; rfl
      have a4 : wr.cell? ⟨w.heap.size, 4, none⟩ = some (.int .i64 (sm / 4294967296)) := by rw [blk_cell hb]; rfl
      have a5 : wr.cell? ⟨w.heap.size, 5, none⟩ = some (.int .i64 (sm % 4294967296)) := by rw [blk_cell hb]; rfl
      have a6 : wr.cell? ⟨w.heap.size, 6, none⟩ = some (.int .i64 F.t) := by rw [blk_cell hb]; rfl
      have a7 : wr.cell? ⟨w.heap.size, 7, none⟩ = some (.slice fA F.n.length fc) := by rw [blk_cell hb]; rfl
      have a8 : wr.cell? ⟨w.heap.size, 8, none⟩ = some (.slice gA F.s.length gc) := by rw [blk_cell hb]; rfl
      have a9 : wr.cell? ⟨w.heap.size, 9, none⟩ = some (.slice hA F.l.length hc) := by rw [blk_cell hb]; rfl
      have a10 : wr.cell? ⟨w.heap.size, 10, none⟩ = some (.int .i64 0) := by rw [blk_cell hb]; rfl
      have a11 : wr.cell? ⟨w.heap.size, 11, none⟩ = some (.slice none 0 0) := by rw [blk_cell hb]; rfl
      have a12 : wr.cell? ⟨w.heap.size, 12, none⟩ = some (.slice none 0 0) := by rw [blk_cell hb]; rfl
      have a13 : wr.cell? ⟨w.heap.size, 13, none⟩ = some (.slice none 0 0) := by rw [blk_cell hb]; rfl
      have a14 : wr.cell? ⟨w.heap.size, 14, none⟩ = some (.int .i64 0) := by rw [blk_cell hb]; rfl
      clear hb hz ho hf hg
      go_upto_region 6 with fail
      go_wp2_with (go_at_call 63; refine HCL.out.mono ?_; rintro e w7 ⟨pA, pc, qA, qc, rA, rc, sA0, sc0, tA0, tc0, uA0, uc0, f7, rfl, ho7, hf7, hg7⟩; have HO7 := hide ho7; have HF7 := hide hf7; have HG7 := hide hg7; have hz7 := blk_keep HBZr.out hg7 (by simp); have HBZ7 := hide hz7; clear ho7 hf7 hg7 a0 a1 a2 a3 a4 a5 a6 a7 a8 a9 a10 a11 a12 a13 a14; have y0 : w7.cell? ⟨(w.heap.size + 1), 0, none⟩ = some (.int .i64 0) := (by { rw [blk_cell hz7]; rfl }); have y1 : w7.cell? ⟨(w.heap.size + 1), 1, none⟩ = some (.int .i64 0) := (by { rw [blk_cell hz7]; rfl }); have y2 : w7.cell? ⟨(w.heap.size + 1), 2, none⟩ = some (.int .i64 0) := (by { rw [blk_cell hz7]; rfl }); have y3 : w7.cell? ⟨(w.heap.size + 1), 3, none⟩ = some (.int .i64 0) := (by { rw [blk_cell hz7]; rfl }); have y4 : w7.cell? ⟨(w.heap.size + 1), 4, none⟩ = some (.int .i64 0) := (by { rw [blk_cell hz7]; rfl }); have y5 : w7.cell? ⟨(w.heap.size + 1), 5, none⟩ = some (.int .i64 0) := (by { rw [blk_cell hz7]; rfl }); have y6 : w7.cell? ⟨(w.heap.size + 1), 6, none⟩ = some (.int .i64 0) := (by { rw [blk_cell hz7]; rfl }); have y7 : w7.cell? ⟨(w.heap.size + 1), 7, none⟩ = some (.slice none 0 0) := (by { rw [blk_cell hz7]; rfl }); have y8 : w7.cell? ⟨(w.heap.size + 1), 8, none⟩ = some (.slice none 0 0) := (by { rw [blk_cell hz7]; rfl }); have y9 : w7.cell? ⟨(w.heap.size + 1), 9, none⟩ = some (.slice none 0 0) := (by { rw [blk_cell hz7]; rfl }); have y10 : w7.cell? ⟨(w.heap.size + 1), 10, none⟩ = some (.int .i64 0) := (by { rw [blk_cell hz7]; rfl }); have y11 : w7.cell? ⟨(w.heap.size + 1), 11, none⟩ = some (.slice none 0 0) := (by { rw [blk_cell hz7]; rfl }); have y12 : w7.cell? ⟨(w.heap.size + 1), 12, none⟩ = some (.slice none 0 0) := (by { rw [blk_cell hz7]; rfl }); have y13 : w7.cell? ⟨(w.heap.size + 1), 13, none⟩ = some (.slice none 0 0) := (by { rw [blk_cell hz7]; rfl }); have y14 : w7.cell? ⟨(w.heap.size + 1), 14, none⟩ = some (.int .i64 0) := (by { rw [blk_cell hz7]; rfl }); have x0 := blk_frozen hz7 0; have x1 := blk_frozen hz7 1; have x2 := blk_frozen hz7 2; have x3 := blk_frozen hz7 3; have x4 := blk_frozen hz7 4; have x5 := blk_frozen hz7 5; have x6 := blk_frozen hz7 6; have x7 := blk_frozen hz7 7; have x8 := blk_frozen hz7 8; have x9 := blk_frozen hz7 9; have x10 := blk_frozen hz7 10; have x11 := blk_frozen hz7 11; have x12 := blk_frozen hz7 12; have x13 := blk_frozen hz7 13; have x14 := blk_frozen hz7 14; clear hz7)
      obtain ⟨wF, hwF⟩ : ∃ wF, wF = (((((((((((((((w7.setCell ⟨w.heap.size + 1, 0, none⟩ (.int .i64 op)).setCell ⟨w.heap.size + 1, 1, none⟩ (.int .i64 2)).setCell ⟨w.heap.size + 1, 2, none⟩ (.int .i64 n)).setCell ⟨w.heap.size + 1, 3, none⟩ (.int .i64 s)).setCell ⟨w.heap.size + 1, 4, none⟩ (.int .i64 (sm / 4294967296))).setCell ⟨w.heap.size + 1, 5, none⟩ (.int .i64 (sm % 4294967296))).setCell ⟨w.heap.size + 1, 6, none⟩ (.int .i64 F.t)).setCell ⟨w.heap.size + 1, 7, none⟩ (.slice pA F.n.length pc)).setCell ⟨w.heap.size + 1, 8, none⟩ (.slice qA F.s.length qc)).setCell ⟨w.heap.size + 1, 9, none⟩ (.slice rA F.l.length rc)).setCell ⟨w.heap.size + 1, 10, none⟩ (.int .i64 0)).setCell ⟨w.heap.size + 1, 11, none⟩ (.slice sA0 0 sc0)).setCell ⟨w.heap.size + 1, 12, none⟩ (.slice tA0 0 tc0)).setCell ⟨w.heap.size + 1, 13, none⟩ (.slice uA0 0 uc0)).setCell ⟨w.heap.size + 1, 14, none⟩ (.int .i64 0)) := ⟨_, rfl⟩
      rw [← hwF]
      have hfin : wF.heap[(w.heap.size + 1)]? = some (.cells #[.int .i64 op, .int .i64 2, .int .i64 n, .int .i64 s, .int .i64 (sm / 4294967296), .int .i64 (sm % 4294967296), .int .i64 F.t, .slice pA F.n.length pc, .slice qA F.s.length qc, .slice rA F.l.length rc, .int .i64 0, .slice sA0 0 sc0, .slice tA0 0 tc0, .slice uA0 0 uc0, .int .i64 0] 54 (0, 0)) := by
        rw [hwF]
        have h := (blk_set (blk_set (blk_set (blk_set (blk_set (blk_set (blk_set (blk_set (blk_set (blk_set (blk_set (blk_set (blk_set (blk_set (blk_set HBZ7.out 0 (.int .i64 op)) 1 (.int .i64 2)) 2 (.int .i64 n)) 3 (.int .i64 s)) 4 (.int .i64 (sm / 4294967296))) 5 (.int .i64 (sm % 4294967296))) 6 (.int .i64 F.t)) 7 (.slice pA F.n.length pc)) 8 (.slice qA F.s.length qc)) 9 (.slice rA F.l.length rc)) 10 (.int .i64 0)) 11 (.slice sA0 0 sc0)) 12 (.slice tA0 0 tc0)) 13 (.slice uA0 0 uc0)) 14 (.int .i64 0))
        simp only [List.setIfInBounds_toArray, List.set_cons_succ, List.set_cons_zero] at h
        exact h
      have hgf : w7.grownBy wF (some (w.heap.size + 1)) := by rw [hwF]; exact gb_setCell (gb_setCell (gb_setCell (gb_setCell (gb_setCell (gb_setCell (gb_setCell (gb_setCell (gb_setCell (gb_setCell (gb_setCell (gb_setCell (gb_setCell (gb_setCell (gb_setCell (gb_refl w7 (some (w.heap.size + 1))) (.inl rfl) _) (.inl rfl) _) (.inl rfl) _) (.inl rfl) _) (.inl rfl) _) (.inl rfl) _) (.inl rfl) _) (.inl rfl) _) (.inl rfl) _) (.inl rfl) _) (.inl rfl) _) (.inl rfl) _) (.inl rfl) _) (.inl rfl) _) (.inl rfl) _
      clear hwF
      have m0 : wF.cell? ⟨w.heap.size + 1, 0, none⟩ = some (.int .i64 op) := by rw [blk_cell hfin]; rfl
      have m1 : wF.cell? ⟨w.heap.size + 1, 1, none⟩ = some (.int .i64 2) := by rw [blk_cell hfin]; rfl
      have m2 : wF.cell? ⟨w.heap.size + 1, 2, none⟩ = some (.int .i64 n) := by rw [blk_cell hfin]; rfl
      have m3 : wF.cell? ⟨w.heap.size + 1, 3, none⟩ = some (.int .i64 s) := by rw [blk_cell hfin]; rfl
      have m4 : wF.cell? ⟨w.heap.size + 1, 4, none⟩ = some (.int .i64 (sm / 4294967296)) := by rw [blk_cell hfin]; rfl
      have m5 : wF.cell? ⟨w.heap.size + 1, 5, none⟩ = some (.int .i64 (sm % 4294967296)) := by rw [blk_cell hfin]; rfl
      have m6 : wF.cell? ⟨w.heap.size + 1, 6, none⟩ = some (.int .i64 F.t) := by rw [blk_cell hfin]; rfl
      have m7 : wF.cell? ⟨w.heap.size + 1, 7, none⟩ = some (.slice pA F.n.length pc) := by rw [blk_cell hfin]; rfl
      have m8 : wF.cell? ⟨w.heap.size + 1, 8, none⟩ = some (.slice qA F.s.length qc) := by rw [blk_cell hfin]; rfl
      have m9 : wF.cell? ⟨w.heap.size + 1, 9, none⟩ = some (.slice rA F.l.length rc) := by rw [blk_cell hfin]; rfl
      have m10 : wF.cell? ⟨w.heap.size + 1, 10, none⟩ = some (.int .i64 0) := by rw [blk_cell hfin]; rfl
      have m11 : wF.cell? ⟨w.heap.size + 1, 11, none⟩ = some (.slice sA0 0 sc0) := by rw [blk_cell hfin]; rfl
      have m12 : wF.cell? ⟨w.heap.size + 1, 12, none⟩ = some (.slice tA0 0 tc0) := by rw [blk_cell hfin]; rfl
      have m13 : wF.cell? ⟨w.heap.size + 1, 13, none⟩ = some (.slice uA0 0 uc0) := by rw [blk_cell hfin]; rfl
      have m14 : wF.cell? ⟨w.heap.size + 1, 14, none⟩ = some (.int .i64 0) := by rw [blk_cell hfin]; rfl
      refine bodyPost_ret (v := .agg #[.int .i64 op, .int .i64 2, .int .i64 n, .int .i64 s, .int .i64 (sm / 4294967296), .int .i64 (sm % 4294967296), .int .i64 F.t, .slice pA F.n.length pc, .slice qA F.s.length qc, .slice rA F.l.length rc, .int .i64 0, .slice sA0 0 sc0, .slice tA0 0 tc0, .slice uA0 0 uc0, .int .i64 0]) (by simp [results, Tryz.results34, go_sem, m0, m1, m2, m3, m4, m5, m6, m7, m8, m9, m10, m11, m12, m13, m14]) rfl ?_
      have hk : ∀ b, b ∈ f7 → wF.heap[b]? = w7.heap[b]? := fun b hb => hgf.block b (VOw.lt _ _ _ HO7.out b hb) (by intro e; injection e with e; have := HF7.out b hb; have := blk_lt HBZr.out; omega)
      exact ⟨pA, pc, qA, qc, rA, rc, sA0, sc0, tA0, tc0, uA0, uc0, f7, rfl, VOw.keep _ _ _ HO7.out hk, fun b hb => Nat.le_trans HGR.out.size (HF7.out b hb), gb_trans (gb_trans HGR.out HG7.out (.inl rfl)) hgf (.inr (.inr ⟨_, rfl, by omega⟩))⟩
end Go.Proofs.YtgepejnooghjbaaGreat

namespace Go.Proofs
open Go.Shelf
def Tryz.lays129_ren : Go.Shelf.Ren := ⟨fun | 129 => 174 | n => n, fun | 53 => 140 | 3 => 3 | 4 => 4 | 46 => 107 | 5 => 5 | 9 => 9 | n => n, fun | n => n⟩
theorem Tryz.lays129 : Go.Proofs.Lays.n129 Tryz.prog Tryz.lays129_ren := {
  mixed := by kernel_rfl
  f129 := Tryz.func174.trans (congrArg some (by kernel_rfl))
  t3 := Tryz.underlying3
  a3 := Tryz.isAgg3
  z3 := Tryz.sizeOf3
  v3 := Tryz.zeroValue3
  t4 := Tryz.underlying4
  a4 := Tryz.isAgg4
  z4 := Tryz.sizeOf4
  v4 := Tryz.zeroValue4
  t5 := Tryz.underlying5
  a5 := Tryz.isAgg5
  z5 := Tryz.sizeOf5
  v5 := Tryz.zeroValue5
  t9 := Tryz.underlying9
  a9 := Tryz.isAgg9
  z9 := Tryz.sizeOf9
  v9 := Tryz.zeroValue9
  t46 := Tryz.underlying107
  a46 := Tryz.isAgg107
  z46 := Tryz.sizeOf107
  v46 := Tryz.zeroValue107
  t53 := Tryz.underlying140
  a53 := Tryz.isAgg140
  z53 := Tryz.sizeOf140
  v53 := Tryz.zeroValue140 }
theorem Tryz.bits_Len64 (x : Int) (w : World) (h0 : 0 ≤ x) (h1 : x ≤ 18446744073709551615) :
    Calls Tryz.prog 174 #[.int .u64 x] w fun e w' => e = .returned (.int .i64 (Lib.bitLen x.toNat)) ∧ w' = w := Any.bits_Len64 Tryz.lays129 x w h0 h1
end Go.Proofs

namespace Go.Proofs.YtgepejnooghjbaaGreat
open Go.RowKit
attribute [local go_sem ↓] Go.wp_at_zero Go.wp_at_succ

theorem lz_any (y : Nat) (hy : y < 18446744073709551616) (w : World) : Calls Tryz.prog 161 #[.int .u64 (y : Int)] w fun e w' => e = .returned (.int .i64 (64 - (Lib.bitLen y : Int))) ∧ w = w' := by
  have HC := hide (Tryz.bits_Len64 (y : Int) w (by omega) (by omega))
  have hb : Lib.bitLen y ≤ 64 := Lib.bitLen_le y 64 (by omega) (by omega)
  have h1 : IntKind.i64.wrap (64 - (Lib.bitLen y : Int)) = 64 - (Lib.bitLen y : Int) := by rw [IntKind.wrap_i64]; omega
  have HT := hide (Int.toNat_natCast y)
  clear hb
  go_enter Tryz.func161, Tryz.ntmps161
  go_wp2_with (go_at_call 174; refine HC.out.mono ?_; rintro e w1 ⟨rfl, rfl⟩; rw [HT.out])
  go_ret
  exact ⟨rfl, rfl⟩
theorem u64_low32 (x : Nat) (h : x < 18446744073709551616) : bits .and .u64 (x : Int) 4294967295 = ((x % 4294967296 : Nat) : Int) := by
  show IntKind.u64.wrap ((BitVec.ofInt 64 (x : Int) &&& BitVec.ofInt 64 4294967295).toNat : Int) = _
  have e : BitVec.ofInt 64 4294967295 = BitVec.ofNat 64 4294967295 := by decide
  rw [e, BitVec.ofInt_natCast, BitVec.toNat_and, BitVec.toNat_ofNat, BitVec.toNat_ofNat, Nat.mod_eq_of_lt (by omega : x < 2 ^ 64), Nat.mod_eq_of_lt (by decide : 4294967295 < 2 ^ 64),
    show 4294967295 = 2 ^ 32 - 1 by decide, Nat.and_two_pow_sub_one_eq_mod, IntKind.wrap_u64]
  omega
/-- The upper part, which is a multiple of 2^s, and the lower one, which is below it. -/
theorem u64_join (a b s : Nat) (hb : b < 2 ^ s) (h : a * 2 ^ s + b < 18446744073709551616) : bits .or .u64 ((a * 2 ^ s : Nat) : Int) (b : Int) = ((a * 2 ^ s + b : Nat) : Int) := by
  show IntKind.u64.wrap ((BitVec.ofInt 64 ((a * 2 ^ s : Nat) : Int) ||| BitVec.ofInt 64 (b : Int)).toNat : Int) = _
  rw [BitVec.ofInt_natCast, BitVec.ofInt_natCast, BitVec.toNat_or, BitVec.toNat_ofNat, BitVec.toNat_ofNat, Nat.mod_eq_of_lt (by omega : a * 2 ^ s < 2 ^ 64), Nat.mod_eq_of_lt (by omega : b < 2 ^ 64),
    ← Nat.shiftLeft_eq, ← Nat.shiftLeft_add_eq_or_of_lt hb, Nat.shiftLeft_eq, IntKind.wrap_u64]
  omega
/-- What Div64 finds on its way, where the divisor's lower half is 0. -/
structure DivF (s t P hi lo y Y yn H lt U V u1 u0 q1 m1 r1 W q0 m0 r0 Q R : Nat) : Prop where
  eY : Y = yn * 4294967296
  eyn0 : 0 < yn
  eyn1 : yn < 4294967296
  ey : y * P = Y
  eH : hi * P = H
  eU : U = H + lt
  eUb : U < yn * 4294967296
  eV : V = u1 * 4294967296 + u0
  eVb : V < 18446744073709551616
  eu1 : u1 < 4294967296
  eu0 : u0 < 4294967296
  eq1 : U / yn = q1
  em1 : q1 * yn = m1
  er1 : U = m1 + r1
  er1b : r1 < yn
  eq1b : q1 < 4294967296
  eW : W = r1 * 4294967296 + u1
  eq0 : W / yn = q0
  em0 : q0 * yn = m0
  er0 : W = m0 + r0
  er0b : r0 < yn
  eq0b : q0 < 4294967296
  eQ : Q = q1 * 4294967296 + q0
  eR : R = (r0 * 4294967296 + u0) / P
  erem : (hi * 18446744073709551616 + lo) / y = Q ∧ (hi * 18446744073709551616 + lo) % y = R
  est : s + t = 64
  elt : lo / 2 ^ t = lt
  eltb : lt < P
  elv : lo * P % 18446744073709551616 = V
  eP : 2 ^ s = P
  eP0 : 0 < P
theorem divF (hi lo y s : Nat) (hh : hi < y) (hl : lo < 18446744073709551616) (hs : 32 ≤ s) (hs2 : s ≤ 64) (h1 : y * 2 ^ s < 18446744073709551616) :
    ∃ t P Y yn H lt U V u1 u0 q1 m1 r1 W q0 m0 r0 Q R, DivF s t P hi lo y Y yn H lt U V u1 u0 q1 m1 r1 W q0 m0 r0 Q R := by
  have hP : (2 : Nat) ^ s = 2 ^ (s - 32) * 4294967296 := by rw [show (4294967296 : Nat) = 2 ^ 32 by decide, ← Nat.pow_add]; congr 1; omega
  have hT : (2 : Nat) ^ s * 2 ^ (64 - s) = 18446744073709551616 := by rw [← Nat.pow_add, show s + (64 - s) = 64 by omega]
  have hP0 : 0 < (2 : Nat) ^ s := Nat.two_pow_pos s
  have hT0 : 0 < (2 : Nat) ^ (64 - s) := Nat.two_pow_pos _
  obtain ⟨yn, hyn⟩ : ∃ yn, yn = y * 2 ^ (s - 32) := ⟨_, rfl⟩
  have hY : y * 2 ^ s = yn * 4294967296 := by rw [hP, hyn, Nat.mul_assoc]
  have hy0 : 0 < y := by omega
  have hyn0 : 0 < yn := by rw [hyn]; exact Nat.mul_pos hy0 (Nat.two_pow_pos _)
  have hyn1 : yn < 4294967296 := by omega
  -- the dividend, turned up by s
  have hdm := Nat.div_add_mod lo (2 ^ (64 - s))
  have hlt : lo / 2 ^ (64 - s) < 2 ^ s := by rw [Nat.div_lt_iff_lt_mul hT0, hT]; exact hl
  have hmod : lo % 2 ^ (64 - s) < 2 ^ (64 - s) := Nat.mod_lt _ hT0
  have hlow : lo * 2 ^ s % 18446744073709551616 = lo % 2 ^ (64 - s) * 2 ^ s := by
    conv => lhs; rw [← hdm, Nat.add_mul, Nat.mul_right_comm, Nat.mul_comm (2 ^ (64 - s)), hT]
    rw [Nat.mul_add_mod]
    refine Nat.mod_eq_of_lt ?_
    have := Nat.mul_lt_mul_of_pos_right hmod hP0
    rw [Nat.mul_comm (2 ^ (64 - s)), hT] at this
    exact this
  have hlo : lo * 2 ^ s = lo / 2 ^ (64 - s) * 18446744073709551616 + lo * 2 ^ s % 18446744073709551616 := by
    rw [hlow]
    conv => lhs; rw [← hdm, Nat.add_mul, Nat.mul_right_comm, Nat.mul_comm (2 ^ (64 - s)), hT]
    rw [Nat.mul_comm]
  have hHb : (hi + 1) * 2 ^ s ≤ y * 2 ^ s := Nat.mul_le_mul_right _ hh
  rw [Nat.add_mul, Nat.one_mul] at hHb
  obtain ⟨P, hPe⟩ : ∃ P, P = 2 ^ s := ⟨_, rfl⟩
  obtain ⟨lt, hlte⟩ : ∃ lt, lt = lo / 2 ^ (64 - s) := ⟨_, rfl⟩
  rw [← hPe] at hY hP0 hlt hlo hHb
  rw [← hlte] at hlt hlo
  obtain ⟨H, hH⟩ : ∃ H, H = hi * P := ⟨_, rfl⟩
  obtain ⟨V, hV⟩ : ∃ V, V = lo * P % 18446744073709551616 := ⟨_, rfl⟩
  rw [← hV] at hlo
  rw [← hH] at hHb
  have hVb : V < 18446744073709551616 := by rw [hV]; exact Nat.mod_lt _ (by decide)
  obtain ⟨U, hU⟩ : ∃ U, U = H + lt := ⟨_, rfl⟩
  have hUb : U < yn * 4294967296 := by omega
  have d1 := Nat.div_add_mod U yn
  have d2 := Nat.mod_lt U hyn0
  have d3 : U / yn < 4294967296 := by rw [Nat.div_lt_iff_lt_mul hyn0, Nat.mul_comm]; exact hUb
  rw [Nat.mul_comm] at d1
  obtain ⟨q1, hq1⟩ : ∃ q1, q1 = U / yn := ⟨_, rfl⟩
  obtain ⟨r1, hr1⟩ : ∃ r1, r1 = U % yn := ⟨_, rfl⟩
  rw [← hq1, ← hr1] at d1
  rw [← hr1] at d2
  rw [← hq1] at d3
  obtain ⟨W, hW⟩ : ∃ W, W = r1 * 4294967296 + V / 4294967296 := ⟨_, rfl⟩
  have hWb : W < yn * 4294967296 := by omega
  have e1 := Nat.div_add_mod W yn
  have e2 := Nat.mod_lt W hyn0
  have e3 : W / yn < 4294967296 := by rw [Nat.div_lt_iff_lt_mul hyn0, Nat.mul_comm]; exact hWb
  rw [Nat.mul_comm] at e1
  obtain ⟨q0, hq0⟩ : ∃ q0, q0 = W / yn := ⟨_, rfl⟩
  obtain ⟨r0, hr0⟩ : ∃ r0, r0 = W % yn := ⟨_, rfl⟩
  rw [← hq0, ← hr0] at e1
  rw [← hr0] at e2
  rw [← hq0] at e3
  -- the whole: (hi * 2^64 + lo) * P = Q * (y * P) + (r0 * 2^32 + u0)
  have hN : (hi * 18446744073709551616 + lo) * P = (q1 * 4294967296 + q0) * (y * P) + (r0 * 4294967296 + V % 4294967296) := by
    have a1 : (hi * 18446744073709551616 + lo) * P = H * 18446744073709551616 + lo * P := by rw [Nat.add_mul, Nat.mul_right_comm, ← hH]
    have a2 : (q1 * 4294967296 + q0) * (y * P) = q1 * yn * 18446744073709551616 + q0 * yn * 4294967296 := by
      rw [hY, Nat.add_mul, show q1 * 4294967296 * (yn * 4294967296) = q1 * yn * 18446744073709551616 by rw [Nat.mul_mul_mul_comm], ← Nat.mul_assoc]
    rw [a1, a2]
    omega
  have hRb : r0 * 4294967296 + V % 4294967296 < y * P := by rw [hY]; omega
  refine ⟨64 - s, P, y * P, yn, H, lt, U, V, V / 4294967296, V % 4294967296, q1, q1 * yn, r1, W, q0, q0 * yn, r0, q1 * 4294967296 + q0, (r0 * 4294967296 + V % 4294967296) / P,
    ⟨hY, hyn0, hyn1, rfl, hH.symm, hU, hUb, by omega, hVb, by omega, by omega, hq1.symm, rfl, d1.symm, d2, d3, hW, hq0.symm, rfl, e1.symm, e2, e3, rfl, rfl, ?_, by omega, hlte.symm, hlt, hV.symm, hPe.symm, hP0⟩⟩
  have hx : (hi * 18446744073709551616 + lo) = ((q1 * 4294967296 + q0) * (y * P) + (r0 * 4294967296 + V % 4294967296)) / P := by
    rw [← hN, Nat.mul_div_cancel _ hP0]
  rw [show (q1 * 4294967296 + q0) * (y * P) + (r0 * 4294967296 + V % 4294967296) = (r0 * 4294967296 + V % 4294967296) + P * ((q1 * 4294967296 + q0) * y) by rw [Nat.add_comm, Nat.mul_comm P, Nat.mul_assoc], Nat.add_mul_div_left _ _ hP0] at hx
  have hR : (r0 * 4294967296 + V % 4294967296) / P < y := by rw [Nat.div_lt_iff_lt_mul hP0]; exact hRb
  rw [hx, Nat.add_mul_div_right _ _ hy0, Nat.add_mul_mod_self_right, Nat.div_eq_of_lt hR, Nat.mod_eq_of_lt hR]
  exact ⟨Nat.zero_add _, rfl⟩
end Go.Proofs.YtgepejnooghjbaaGreat

namespace Go.Proofs.YtgepejnooghjbaaGreat
open Go.RowKit
attribute [local go_sem ↓] Go.wp_at_zero Go.wp_at_succ

theorem shift_of (y : Nat) (h0 : 0 < y) (h1 : y < 4294967296) : ∃ s : Nat, (64 - (Lib.bitLen y : Int)) = (s : Int) ∧ 32 ≤ s ∧ s ≤ 63 ∧ y * 2 ^ s < 18446744073709551616 := by
  have hb : Lib.bitLen y ≤ 32 := Lib.bitLen_le y 32 (by omega) (by omega)
  obtain ⟨b1, b2, b3⟩ := Lib.bitLenAux_bounds 64 y (by omega) (by omega)
  have b1 : 1 ≤ Lib.bitLen y := b1
  have b3 : y < 2 ^ Lib.bitLen y := b3
  refine ⟨64 - Lib.bitLen y, by omega, by omega, by omega, ?_⟩
  have := Nat.mul_lt_mul_of_pos_right b3 (Nat.two_pow_pos (64 - Lib.bitLen y))
  rw [← Nat.pow_add, show Lib.bitLen y + (64 - Lib.bitLen y) = 64 by omega] at this
  exact this
theorem w64 {n : Int} (h0 : 0 ≤ n) (h1 : n < 18446744073709551616) : IntKind.u64.wrap n = n := by rw [IntKind.wrap_u64]; omega
set_option maxHeartbeats 4000000 in
set_option maxRecDepth 100000 in
theorem div_small (hi lo y : Nat) (h0 : 0 < hi) (hh : hi < y) (hy : y < 4294967296) (hl : lo < 18446744073709551616) (w : World) :
    Calls Tryz.prog 137 #[.int .u64 (hi : Int), .int .u64 (lo : Int), .int .u64 (y : Int)] w fun e w' => e = .returned (.tuple #[.int .u64 (((hi * 18446744073709551616 + lo) / y : Nat) : Int), .int .u64 (((hi * 18446744073709551616 + lo) % y : Nat) : Int)]) ∧ w.grownBy w' none := by
  obtain ⟨s, hs, hs1, hs2, hs3⟩ := shift_of y (by omega) hy
  obtain ⟨t, P, Y, yn, H, lt, U, V, u1, u0, q1, m1, r1, W, q0, m0, r0, Q, R, D⟩ := divF hi lo y s hh hl hs1 (by omega) hs3
  have LZ := lz_any y (by omega)
  rw [hs] at LZ
  have HLZ := hide LZ
  have HREM := hide D.erem
  rw [D.erem.1, D.erem.2]
  obtain ⟨dY, dyn0, dyn1, dy, dH, dU, dUb, dV, dVb, du1, du0, dq1, dm1, dr1, dr1b, dq1b, dW, dq0, dm0, dr0, dr0b, dq0b, dQ, dR, _, dst, dlt, dltb, dlv, dP, dP0⟩ := D
  have hPi : (2 : Int) ^ s = (P : Int) := by rw [← dP]; norm_cast
  obtain ⟨T, hT⟩ : ∃ T, T = 2 ^ t := ⟨_, rfl⟩
  have hTi : (2 : Int) ^ t = (T : Int) := by rw [hT]; norm_cast
  rw [← hT] at dlt
  have y0 : ((y : Int) == 0) = false := by rw [beq_eq_false_iff_ne]; omega
  have y1 : ¬ (y : Int) ≤ (hi : Int) := by omega
  have y2 : ((hi : Int) == 0) = false := by rw [beq_eq_false_iff_ne]; omega
  have c1 : IntKind.u64.wrap (s : Int) = (s : Int) := w64 (by omega) (by omega)
  have c2 : (0 : Int) ≤ (s : Int) := by omega
  have c3 : (s : Int) ≤ 64 := by omega
  have c4 : ((s : Int)).toNat = s := Int.toNat_natCast s
  have f1 : IntKind.u64.wrap ((y : Int) * (P : Int)) = (Y : Int) := by rw [← dy]; rw [show (y : Int) * (P : Int) = ((y * P : Nat) : Int) by norm_cast]; exact w64 (by omega) (by omega)
  have f2 : (Y : Int) / 4294967296 = (yn : Int) := by omega
  have f3 : bits .and .u64 (Y : Int) 4294967295 = 0 := by rw [u64_low32 Y (by omega)]; omega
  have f4 : IntKind.u64.wrap ((hi : Int) * (P : Int)) = (H : Int) := by rw [show (hi : Int) * (P : Int) = (H : Int) by rw [← dH]; norm_cast]; exact w64 (by omega) (by omega)
  have f5 : IntKind.u64.wrap (64 - (s : Int)) = (t : Int) := by rw [w64 (by omega) (by omega)]; omega
  have c5 : (0 : Int) ≤ (t : Int) := by omega
  have c6 : (t : Int) ≤ 64 := by omega
  have c7 : ((t : Int)).toNat = t := Int.toNat_natCast t
  have f6 : (lo : Int) / (T : Int) = (lt : Int) := by rw [← dlt]; norm_cast
  have f7 : bits .or .u64 (H : Int) (lt : Int) = (U : Int) := by rw [dU, ← dH, ← dP]; exact u64_join hi lt s (by omega) (by rw [dP, dH]; omega)
  have f8 : IntKind.u64.wrap ((lo : Int) * (P : Int)) = (V : Int) := by
    rw [show (lo : Int) * (P : Int) = ((lo * P : Nat) : Int) by norm_cast, IntKind.wrap_u64]
    generalize lo * P = LP at dlv ⊢
    omega
  have f9 : (V : Int) / 4294967296 = (u1 : Int) := by omega
  have f10 : bits .and .u64 (V : Int) 4294967295 = (u0 : Int) := by rw [u64_low32 V dVb]; omega
  have f11 : (U : Int).tdiv (yn : Int) = (q1 : Int) := by rw [Int.tdiv_eq_ediv_of_nonneg (by omega), ← dq1]; rfl
  have f11a : ((yn : Int) == 0) = false := by rw [beq_eq_false_iff_ne]; omega
  have f11b : ¬ (yn : Int) = 0 := by omega
  have f11c : ¬ yn = 0 := by omega
  have f12 : IntKind.u64.wrap (q1 : Int) = (q1 : Int) := w64 (by omega) (by omega)
  have f13 : IntKind.u64.wrap ((q1 : Int) * (yn : Int)) = (m1 : Int) := by rw [show (q1 : Int) * (yn : Int) = (m1 : Int) by rw [← dm1]; norm_cast]; exact w64 (by omega) (by omega)
  have f14 : IntKind.u64.wrap ((U : Int) - (m1 : Int)) = (r1 : Int) := by rw [w64 (by omega) (by omega)]; omega
  have f15 : ¬ 4294967296 ≤ (q1 : Int) := by omega
  have f16 : IntKind.u64.wrap 0 = 0 := by decide
  obtain ⟨F1, hF1⟩ : ∃ F1 : Nat, F1 = 4294967296 * r1 := ⟨_, rfl⟩
  have f17 : IntKind.u64.wrap (4294967296 * (r1 : Int)) = (F1 : Int) := by rw [w64 (by omega) (by omega)]; omega
  have f18 : IntKind.u64.wrap ((F1 : Int) + (u1 : Int)) = (W : Int) := by rw [w64 (by omega) (by omega)]; omega
  have f19 : ¬ (W : Int) < 0 := by omega
  obtain ⟨A, hA⟩ : ∃ A : Nat, A = U * 4294967296 % 18446744073709551616 := ⟨_, rfl⟩
  have f20 : IntKind.u64.wrap ((U : Int) * 4294967296) = (A : Int) := by rw [IntKind.wrap_u64]; omega
  obtain ⟨A2, hA2⟩ : ∃ A2 : Nat, A2 = (A + u1) % 18446744073709551616 := ⟨_, rfl⟩
  have f21 : IntKind.u64.wrap ((A : Int) + (u1 : Int)) = (A2 : Int) := by rw [IntKind.wrap_u64]; omega
  obtain ⟨B, hB⟩ : ∃ B : Nat, B = m1 * 4294967296 % 18446744073709551616 := ⟨_, rfl⟩
  have f22 : IntKind.u64.wrap ((q1 : Int) * (Y : Int)) = (B : Int) := by rw [show (q1 : Int) * (Y : Int) = ((m1 * 4294967296 : Nat) : Int) by rw [dY, ← dm1, Nat.mul_assoc]; norm_cast, IntKind.wrap_u64]; omega
  have f23 : IntKind.u64.wrap ((A2 : Int) - (B : Int)) = (W : Int) := by rw [IntKind.wrap_u64]; omega
  have g11 : (W : Int).tdiv (yn : Int) = (q0 : Int) := by rw [Int.tdiv_eq_ediv_of_nonneg (by omega), ← dq0]; rfl
  have g12 : IntKind.u64.wrap (q0 : Int) = (q0 : Int) := w64 (by omega) (by omega)
  have g13 : IntKind.u64.wrap ((q0 : Int) * (yn : Int)) = (m0 : Int) := by rw [show (q0 : Int) * (yn : Int) = (m0 : Int) by rw [← dm0]; norm_cast]; exact w64 (by omega) (by omega)
  have g14 : IntKind.u64.wrap ((W : Int) - (m0 : Int)) = (r0 : Int) := by rw [w64 (by omega) (by omega)]; omega
  have g15 : ¬ 4294967296 ≤ (q0 : Int) := by omega
  obtain ⟨F0, hF0⟩ : ∃ F0 : Nat, F0 = 4294967296 * r0 := ⟨_, rfl⟩
  have g17 : IntKind.u64.wrap (4294967296 * (r0 : Int)) = (F0 : Int) := by rw [w64 (by omega) (by omega)]; omega
  obtain ⟨Z, hZ⟩ : ∃ Z : Nat, Z = r0 * 4294967296 + u0 := ⟨_, rfl⟩
  have g18 : IntKind.u64.wrap ((F0 : Int) + (u0 : Int)) = (Z : Int) := by rw [w64 (by omega) (by omega)]; omega
  have g19 : ¬ (Z : Int) < 0 := by omega
  obtain ⟨F2, hF2⟩ : ∃ F2 : Nat, F2 = q1 * 4294967296 := ⟨_, rfl⟩
  have k1 : IntKind.u64.wrap ((q1 : Int) * 4294967296) = (F2 : Int) := by rw [w64 (by omega) (by omega)]; omega
  have k2 : IntKind.u64.wrap ((F2 : Int) + (q0 : Int)) = (Q : Int) := by rw [w64 (by omega) (by omega)]; omega
  obtain ⟨C, hC⟩ : ∃ C : Nat, C = W * 4294967296 % 18446744073709551616 := ⟨_, rfl⟩
  have k3 : IntKind.u64.wrap ((W : Int) * 4294967296) = (C : Int) := by rw [IntKind.wrap_u64]; omega
  obtain ⟨C2, hC2⟩ : ∃ C2 : Nat, C2 = (C + u0) % 18446744073709551616 := ⟨_, rfl⟩
  have k4 : IntKind.u64.wrap ((C : Int) + (u0 : Int)) = (C2 : Int) := by rw [IntKind.wrap_u64]; omega
  obtain ⟨E, hE⟩ : ∃ E : Nat, E = m0 * 4294967296 % 18446744073709551616 := ⟨_, rfl⟩
  have k5 : IntKind.u64.wrap ((q0 : Int) * (Y : Int)) = (E : Int) := by rw [show (q0 : Int) * (Y : Int) = ((m0 * 4294967296 : Nat) : Int) by rw [dY, ← dm0, Nat.mul_assoc]; norm_cast, IntKind.wrap_u64]; omega
  have k6 : IntKind.u64.wrap ((C2 : Int) - (E : Int)) = (Z : Int) := by rw [IntKind.wrap_u64]; omega
  have k7 : (Z : Int) / (P : Int) = (R : Int) := by rw [dR, hZ]; norm_cast
  clear hs hs1 hs2 hs3 LZ dY dyn0 dyn1 dy dH dU dUb dV dVb du1 du0 dq1 dm1 dr1 dr1b dq1b dW dq0 dm0 dr0 dr0b dq0b dQ dR dst dlt dltb dlv dP dP0 hT hA hA2 hB hZ hC hC2 hE hF0 hF1 hF2 h0 hh hy hl HREM
  generalize (q1 : Int) = iq1 at *
  generalize (q0 : Int) = iq0 at *
  go_enter Tryz.func137, Tryz.ntmps137
  go_wp2_with (go_at_call 161; refine (HLZ.out _).mono ?_; rintro e w1 ⟨rfl, rfl⟩)
  go_loopw [15, 16] (fun u i wr => u = .int .u64 iq1 ∧ i = .int .u64 (r1 : Int) ∧ w = wr) (fun _ _ _ => 0)
  case atStart => exact ⟨rfl, rfl, rfl⟩
  case round =>
    obtain ⟨rfl, rfl, rfl⟩ := hrel
    go_wp2_with fail
    go_loopw [18, 16] (fun u i wr => u = .int .u64 iq0 ∧ i = .int .u64 (r0 : Int) ∧ w = wr) (fun _ _ _ => 0)
    case atStart => exact ⟨rfl, rfl, rfl⟩
    case round =>
      obtain ⟨rfl, rfl, rfl⟩ := hrel
      go_wp2_with fail
      exact bodyPost_ret (v := .tuple #[.int .u64 (Q : Int), .int .u64 (R : Int)]) (by simp [results, Tryz.results137, go_sem]) rfl ⟨rfl, gb_refl w none⟩
end Go.Proofs.YtgepejnooghjbaaGreat

namespace Go.Proofs.YtgepejnooghjbaaGreat
open Go.RowKit
attribute [local go_sem ↓] Go.wp_at_zero Go.wp_at_succ

set_option maxHeartbeats 1000000 in
theorem div_zero (lo y : Nat) (hl : lo ≤ 18446744073709551615) (hy : 0 < y) (hy2 : y ≤ 18446744073709551615) (w : World) :
    Calls Tryz.prog 137 #[.int .u64 0, .int .u64 (lo : Int), .int .u64 (y : Int)] w fun e w' => e = .returned (.tuple #[.int .u64 ((lo / y : Nat) : Int), .int .u64 ((lo % y : Nat) : Int)]) ∧ w.grownBy w' none := by
  have y0 : ((y : Int) == 0) = false := by rw [beq_eq_false_iff_ne]; omega
  have y1 : ¬ (y : Int) ≤ 0 := by omega
  have y2 : y ≠ 0 := by omega
  have q1 : (lo : Int).tdiv (y : Int) = ((lo / y : Nat) : Int) := by rw [Int.tdiv_eq_ediv_of_nonneg (by omega)]; rfl
  have q2 : (lo : Int).tmod (y : Int) = ((lo % y : Nat) : Int) := by rw [Int.tmod_eq_emod_of_nonneg (by omega)]; rfl
  have q4 := Nat.div_le_self lo y
  generalize lo / y = dq at *
  generalize lo % y = dr at *
  have q3 : IntKind.u64.wrap (dq : Int) = (dq : Int) := by rw [IntKind.wrap_u64]; omega
  clear q4
  go_enter Tryz.func137, Tryz.ntmps137
  go_wp2_with fail
  go_region_law (fail)
  all_goals
    go_wp2_with fail
    exact bodyPost_ret (v := .tuple #[.int .u64 (dq : Int), .int .u64 (dr : Int)]) (by simp [results, Tryz.results137, go_sem]) rfl ⟨rfl, gb_drew (gb_refl w none)⟩
theorem div_any (hi lo y : Nat) (hh : hi < y) (hy : y < 4294967296) (hl : lo < 18446744073709551616) (w : World) :
    Calls Tryz.prog 137 #[.int .u64 (hi : Int), .int .u64 (lo : Int), .int .u64 (y : Int)] w fun e w' => e = .returned (.tuple #[.int .u64 (((hi * 18446744073709551616 + lo) / y : Nat) : Int), .int .u64 (((hi * 18446744073709551616 + lo) % y : Nat) : Int)]) ∧ w.grownBy w' none := by
  by_cases h0 : hi = 0
  · subst h0
    have h := div_zero lo y (by omega) (by omega) (by omega) w
    have e : 0 * 18446744073709551616 + lo = lo := by rw [Nat.zero_mul, Nat.zero_add]
    rw [e, Int.natCast_zero]
    exact h
  · exact div_small hi lo y (by omega) hh hy hl w
theorem i64_flip (n : Int) (h0 : -9223372036854775808 ≤ n) (h1 : n < 9223372036854775808) : bits .xor .i64 n (-1) = -1 - n := by
  have e : BitVec.ofInt 64 (-1) = BitVec.allOnes 64 := by decide
  show IntKind.i64.wrap ((BitVec.ofInt 64 n ^^^ BitVec.ofInt 64 (-1)).toNat : Int) = _
  rw [e, BitVec.xor_allOnes, BitVec.toNat_not, BitVec.toNat_ofInt, IntKind.wrap_i64]
  omega
theorem i64_keep (n : Int) (h0 : -9223372036854775808 ≤ n) (h1 : n < 9223372036854775808) : bits .xor .i64 n 0 = n := by
  have e : BitVec.ofInt 64 0 = 0#64 := by decide
  show IntKind.i64.wrap ((BitVec.ofInt 64 n ^^^ BitVec.ofInt 64 0).toNat : Int) = _
  rw [e, BitVec.xor_zero, BitVec.toNat_ofInt, IntKind.wrap_i64]
  omega
end Go.Proofs.YtgepejnooghjbaaGreat

namespace Go.Proofs.YtgepejnooghjbaaGreat
open Go.RowKit
attribute [local go_sem ↓] Go.wp_at_zero Go.wp_at_succ

set_option maxHeartbeats 4000000 in
set_option maxRecDepth 100000 in
theorem over_up (n : Int) (c : Nat) (hc : 0 < c) (hc2 : c < 4294967296) (hn : 0 ≤ n) (hb : n < (c : Int) * 9223372036854775808) (w : World) :
    Calls Tryz.prog 91 #[totV n, .int .i64 (c : Int)] w fun e w' => e = .returned (.int .i64 (n / (c : Int))) ∧ w.grownBy w' none := by
  obtain ⟨m, hmn⟩ : ∃ m : Nat, (m : Int) = n := ⟨n.toNat, by omega⟩
  obtain ⟨hi, hhi⟩ : ∃ hi : Nat, hi = m / 18446744073709551616 := ⟨_, rfl⟩
  obtain ⟨lo, hlo⟩ : ∃ lo : Nat, lo = m % 18446744073709551616 := ⟨_, rfl⟩
  have hm : hi * 18446744073709551616 + lo = m := by omega
  have hhc : hi < c := by omega
  have CD := div_any hi lo c hhc hc2 (by omega)
  rw [hm] at CD
  have hq : (m / c : Nat) < 9223372036854775808 := by rw [Nat.div_lt_iff_lt_mul hc]; omega
  obtain ⟨q, hqe⟩ : ∃ q : Nat, q = m / c := ⟨_, rfl⟩
  have HQ := hide (show (n / (c : Int)) = (q : Int) by rw [hqe, ← hmn]; norm_cast)
  rw [← hqe] at CD hq
  have HCD := hide CD
  have a1 : n / 4294967296 / 4294967296 = (hi : Int) := by omega
  obtain ⟨l, hl⟩ : ∃ l : Int, wrap64 n = l := ⟨_, rfl⟩
  have a2 := (i64_or32 n).trans hl
  have lb : -9223372036854775808 ≤ l ∧ l < 9223372036854775808 := by unfold wrap64 at hl; omega
  have a3 : (hi : Int) / 9223372036854775808 = 0 := by omega
  have a4 : bits .xor .i64 (hi : Int) 0 = (hi : Int) := i64_keep _ (by omega) (by omega)
  have a5 : bits .xor .i64 l 0 = l := i64_keep l lb.1 lb.2
  have a6 : IntKind.u64.wrap (c : Int) = (c : Int) := w64 (by omega) (by omega)
  have a7 : IntKind.u64.wrap (hi : Int) = (hi : Int) := w64 (by omega) (by omega)
  have a8 : IntKind.u64.wrap l = (lo : Int) := by rw [IntKind.wrap_u64]; unfold wrap64 at hl; omega
  have a9 : (hi : Int).tmod (c : Int) = (hi : Int) := by rw [Int.tmod_eq_emod_of_nonneg (by omega)]; exact Int.emod_eq_of_lt (by omega) (by omega)
  have b0 : ((c : Int) == 0) = false := by rw [beq_eq_false_iff_ne]; omega
  have b1 : ¬ (c : Int) = 0 := by omega
  have b2 : ¬ c = 0 := by omega
  have b3 : IntKind.i64.wrap (q : Int) = (q : Int) := by rw [IntKind.wrap_i64]; omega
  have b4 : bits .xor .i64 (q : Int) 0 = (q : Int) := i64_keep _ (by omega) (by omega)
  clear hmn hc hc2 hn hb hhi hlo hm hhc CD hq hqe hl lb
  unfold totV
  go_enter Tryz.func91, Tryz.ntmps91
  go_wp2_with fail
  go_quiet (fail)
  go_wp2_with (go_at_call 137; refine (HCD.out _).mono ?_; rintro e w1 ⟨rfl, hg1⟩; have HG1 := hide hg1; clear hg1)
  refine bodyPost_ret (v := .int .i64 (q : Int)) (by simp [results, Tryz.results91, go_sem]) rfl ⟨by rw [HQ.out], ?_⟩
  first
    | exact gb_trans (gb_alloc (gb_refl w none) _) HG1.out (.inl rfl)
    | exact gb_trans (gb_drewN (gb_alloc (gb_refl w none) _) _) HG1.out (.inl rfl)
    | exact gb_trans (gb_drewN (gb_alloc (gb_refl w none) _)) HG1.out (.inl rfl)
    | exact gb_trans ⟨(gb_alloc (gb_refl w none) _).os, (gb_alloc (gb_refl w none) _).tape, (gb_alloc (gb_refl w none) _).output, (gb_alloc (gb_refl w none) _).size, (gb_alloc (gb_refl w none) _).block⟩ HG1.out (.inl rfl)
set_option maxHeartbeats 4000000 in
set_option maxRecDepth 100000 in
theorem over_down (n : Int) (c : Nat) (hc : 0 < c) (hc2 : c < 4294967296) (hn : n < 0) (hb : -((c : Int) * 9223372036854775808) ≤ n) (w : World) :
    Calls Tryz.prog 91 #[totV n, .int .i64 (c : Int)] w fun e w' => e = .returned (.int .i64 (n / (c : Int))) ∧ w.grownBy w' none := by
  obtain ⟨m, hmn⟩ : ∃ m : Nat, (m : Int) = -1 - n := ⟨(-1 - n).toNat, by omega⟩
  obtain ⟨hi, hhi⟩ : ∃ hi : Nat, hi = m / 18446744073709551616 := ⟨_, rfl⟩
  obtain ⟨lo, hlo⟩ : ∃ lo : Nat, lo = m % 18446744073709551616 := ⟨_, rfl⟩
  have hm : hi * 18446744073709551616 + lo = m := by omega
  have hhc : hi < c := by omega
  have CD := div_any hi lo c hhc hc2 (by omega)
  rw [hm] at CD
  have hq : (m / c : Nat) < 9223372036854775808 := by rw [Nat.div_lt_iff_lt_mul hc]; omega
  obtain ⟨q, hqe⟩ : ∃ q : Nat, q = m / c := ⟨_, rfl⟩
  obtain ⟨r, hr⟩ : ∃ r : Int, r = -1 - (q : Int) := ⟨_, rfl⟩
  have HQ := hide (show (n / (c : Int)) = r by
    have h1 : (c : Int) * (m / c : Nat) + (m % c : Nat) = (m : Int) := by rw [← Int.natCast_mul, ← Int.natCast_add, Nat.div_add_mod]
    have h2 := Nat.mod_lt m hc
    rw [← hqe] at h1
    have h3 : (c : Int) * r = -(c : Int) - (c : Int) * (q : Int) := by rw [hr, Int.mul_sub]; omega
    exact ((Int.ediv_emod_unique (a := n) (b := (c : Int)) (q := r) (r := (c : Int) - 1 - (m % c : Nat)) (by omega)).2 ⟨by omega, by omega, by omega⟩).1)
  rw [← hqe] at CD hq
  have HCD := hide CD
  obtain ⟨h, hhe⟩ : ∃ h : Int, h = -1 - (hi : Int) := ⟨_, rfl⟩
  have a1 : n / 4294967296 / 4294967296 = h := by omega
  obtain ⟨l, hl⟩ : ∃ l : Int, wrap64 n = l := ⟨_, rfl⟩
  have a2 := (i64_or32 n).trans hl
  have lb : -9223372036854775808 ≤ l ∧ l < 9223372036854775808 := by unfold wrap64 at hl; omega
  have a3 : h / 9223372036854775808 = -1 := by omega
  have a4 : bits .xor .i64 h (-1) = (hi : Int) := (i64_flip h (by omega) (by omega)).trans (by omega)
  obtain ⟨l2, hl2⟩ : ∃ l2 : Int, l2 = -1 - l := ⟨_, rfl⟩
  have a5 : bits .xor .i64 l (-1) = l2 := (i64_flip l lb.1 lb.2).trans hl2.symm
  have a6 : IntKind.u64.wrap (c : Int) = (c : Int) := w64 (by omega) (by omega)
  have a7 : IntKind.u64.wrap (hi : Int) = (hi : Int) := w64 (by omega) (by omega)
  have a8 : IntKind.u64.wrap l2 = (lo : Int) := by rw [IntKind.wrap_u64]; unfold wrap64 at hl; omega
  have a9 : (hi : Int).tmod (c : Int) = (hi : Int) := by rw [Int.tmod_eq_emod_of_nonneg (by omega)]; exact Int.emod_eq_of_lt (by omega) (by omega)
  have b0 : ((c : Int) == 0) = false := by rw [beq_eq_false_iff_ne]; omega
  have b1 : ¬ (c : Int) = 0 := by omega
  have b2 : ¬ c = 0 := by omega
  have b3 : IntKind.i64.wrap (q : Int) = (q : Int) := by rw [IntKind.wrap_i64]; omega
  have b4 : bits .xor .i64 (q : Int) (-1) = r := (i64_flip _ (by omega) (by omega)).trans hr.symm
  clear hr hhe hl2 hmn hc hc2 hn hb hhi hlo hm hhc CD hq hqe hl lb
  unfold totV
  go_enter Tryz.func91, Tryz.ntmps91
  go_wp2_with fail
  go_quiet (fail)
  go_wp2_with (go_at_call 137; refine (HCD.out _).mono ?_; rintro e w1 ⟨rfl, hg1⟩; have HG1 := hide hg1; clear hg1)
  refine bodyPost_ret (v := .int .i64 r) (by simp [results, Tryz.results91, go_sem]) rfl ⟨by rw [HQ.out], ?_⟩
  first
    | exact gb_trans (gb_alloc (gb_refl w none) _) HG1.out (.inl rfl)
    | exact gb_trans (gb_drewN (gb_alloc (gb_refl w none) _) _) HG1.out (.inl rfl)
    | exact gb_trans (gb_drewN (gb_alloc (gb_refl w none) _)) HG1.out (.inl rfl)
    | exact gb_trans ⟨(gb_alloc (gb_refl w none) _).os, (gb_alloc (gb_refl w none) _).tape, (gb_alloc (gb_refl w none) _).output, (gb_alloc (gb_refl w none) _).size, (gb_alloc (gb_refl w none) _).block⟩ HG1.out (.inl rfl)
end Go.Proofs.YtgepejnooghjbaaGreat
