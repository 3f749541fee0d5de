/-
  The law VecOnes, walked, with the contracts of its calls as premises.
-/
import Derived.Test.YtbmgodmfpoappaaGreatQUx
import Derived.Test.YtbmgodmfpoappaaGreatQKj
import Derived.Test.YtbmgodmfpoappaaGreatQKn
namespace Go.Proofs.YtbmgodmfpoappaaGreat
open Go.RowKit
attribute [local go_sem ↓] Go.wp_at_zero Go.wp_at_succ
def CutO (v xv : Vl) (wa : World) (b : Value) (wc : World) : Prop := ∃ r : Bool, b = .bool r ∧ (r = false → checkV v = 0 ∧ checkV xv = 0) ∧ wa.grownBy wc none
structure SixC (v xv : Vl) (n t : Int) (nA : Option Addr) (nc : Nat) (sA : Option Addr) (sc : Nat) (lA : Option Addr) (lc : Nat) (xnA : Option Addr) (xnc : Nat) (xsA : Option Addr) (xsc : Nat) (xlA : Option Addr) (xlc : Nat) (w : World) (y1 y2 y3 y4 y5 y6 : Vl) (k1 k2 k3 k4 k5 k6 : Int) : Prop where
 t1 : y1.tot ≤ 1200000000
 t2 : y2.tot ≤ 1200000000
 t3 : y3.tot ≤ 1200000000
 t4 : y4.tot ≤ 1200000000
 t5 : y5.tot ≤ 1200000000
 t6 : y6.tot ≤ 1200000000
 a1 : ∀ w2, w.grownBy w2 none → Calls Tryz.prog 6 #[.agg #[.int .i64 v.t, .slice nA v.n.length nc, .slice sA v.s.length sc, .slice lA v.l.length lc]] w2 (AtN y1 k1 w2)
 b1 : ∀ w2, w.grownBy w2 none → Calls Tryz.prog 7 #[.agg #[.int .i64 v.t, .slice nA v.n.length nc, .slice sA v.s.length sc, .slice lA v.l.length lc]] w2 (AtN y1 k1 w2)
 a2 : ∀ w2, w.grownBy w2 none → Calls Tryz.prog 10 #[.agg #[.int .i64 v.t, .slice nA v.n.length nc, .slice sA v.s.length sc, .slice lA v.l.length lc]] w2 (AtN y2 k2 w2)
 b2 : ∀ w2, w.grownBy w2 none → Calls Tryz.prog 11 #[.agg #[.int .i64 v.t, .slice nA v.n.length nc, .slice sA v.s.length sc, .slice lA v.l.length lc]] w2 (AtN y2 k2 w2)
 a3 : ∀ w2, w.grownBy w2 none → Calls Tryz.prog 12 #[.int .i64 n] w2 (AtN y3 k3 w2)
 b3 : ∀ w2, w.grownBy w2 none → Calls Tryz.prog 13 #[.int .i64 n] w2 (AtN y3 k3 w2)
 a4 : ∀ w2, w.grownBy w2 none → Calls Tryz.prog 14 #[.agg #[.int .i64 v.t, .slice nA v.n.length nc, .slice sA v.s.length sc, .slice lA v.l.length lc]] w2 (AtN y4 k4 w2)
 b4 : ∀ w2, w.grownBy w2 none → Calls Tryz.prog 15 #[.agg #[.int .i64 v.t, .slice nA v.n.length nc, .slice sA v.s.length sc, .slice lA v.l.length lc]] w2 (AtN y4 k4 w2)
 a5 : ∀ w2, w.grownBy w2 none → Calls Tryz.prog 16 #[.int .i64 t, .agg #[.int .i64 v.t, .slice nA v.n.length nc, .slice sA v.s.length sc, .slice lA v.l.length lc]] w2 (AtN y5 k5 w2)
 b5 : ∀ w2, w.grownBy w2 none → Calls Tryz.prog 17 #[.int .i64 t, .agg #[.int .i64 v.t, .slice nA v.n.length nc, .slice sA v.s.length sc, .slice lA v.l.length lc]] w2 (AtN y5 k5 w2)
 a6 : ∀ w2, w.grownBy w2 none → Calls Tryz.prog 18 #[.agg #[.int .i64 xv.t, .slice xnA xv.n.length xnc, .slice xsA xv.s.length xsc, .slice xlA xv.l.length xlc], .agg #[.int .i64 v.t, .slice nA v.n.length nc, .slice sA v.s.length sc, .slice lA v.l.length lc]] w2 (AtN y6 k6 w2)
 b6 : ∀ w2, w.grownBy w2 none → Calls Tryz.prog 19 #[.agg #[.int .i64 xv.t, .slice xnA xv.n.length xnc, .slice xsA xv.s.length xsc, .slice xlA xv.l.length xlc], .agg #[.int .i64 v.t, .slice nA v.n.length nc, .slice sA v.s.length sc, .slice lA v.l.length lc]] w2 (AtN y6 k6 w2)
set_option maxHeartbeats 16000000 in
set_option maxRecDepth 100000 in
theorem ones_walk (v xv : Vl) (n t : Int) (w : World) (nA : Option Addr) (nc : Nat) (sA : Option Addr) (sc : Nat) (lA : Option Addr) (lc : Nat) (xnA : Option Addr) (xnc : Nat) (xsA : Option Addr) (xsc : Nat) (xlA : Option Addr) (xlc : Nat) (ht : v.tot + xv.tot ≤ 1048576) (h : VB w w.heap.size v nA nc sA sc lA lc) (hx : VB w w.heap.size xv xnA xnc xsA xsc xlA xlc)
  (y1 y2 y3 y4 y5 y6 : Vl) (k1 k2 k3 k4 k5 k6 : Int) (H : checkV v = 0 → checkV xv = 0 → SixC v xv n t nA nc sA sc lA lc xnA xnc xsA xsc xlA xlc w y1 y2 y3 y4 y5 y6 k1 k2 k3 k4 k5 k6) :
  Calls Tryz.prog 3 #[.agg #[.int .i64 v.t, .slice nA v.n.length nc, .slice sA v.s.length sc, .slice lA v.l.length lc], .int .i64 n, .int .i64 t, .agg #[.int .i64 xv.t, .slice xnA xv.n.length xnc, .slice xsA xv.s.length xsc, .slice xlA xv.l.length xlc]] w fun e w' => e = .returned (.bool true) ∧ w.grownBy w' none := by
 have HH := hide H
 obtain ⟨wa, hwa⟩ : ∃ wa, wa = (w.alloc (.cells #[.int .i64 v.t, .slice nA v.n.length nc, .slice sA v.s.length sc, .slice lA v.l.length lc] 26)).alloc (.cells #[.int .i64 xv.t, .slice xnA xv.n.length xnc, .slice xsA xv.s.length xsc, .slice xlA xv.l.length xlc] 26) := ⟨_, rfl⟩
 have hga : w.grownBy wa none := by rw [hwa]; exact gb_alloc (gb_alloc (gb_refl w none) _) _
 have hsa : wa.heap.size = w.heap.size + 2 := by rw [hwa]; simp
 have hbv : wa.heap[w.heap.size]? = some (.cells #[.int .i64 v.t, .slice nA v.n.length nc, .slice sA v.s.length sc, .slice lA v.l.length lc] 26 (0, 0)) := by rw [hwa]; exact (Below.heap_alloc _ _ _ (by rw [World.size_alloc]; omega)).trans (heap_alloc_new w _)
 have hbx : wa.heap[w.heap.size + 1]? = some (.cells #[.int .i64 xv.t, .slice xnA xv.n.length xnc, .slice xsA xv.s.length xsc, .slice xlA xv.l.length xlc] 26 (0, 0)) := by rw [hwa]; have := heap_alloc_new (w.alloc (.cells #[.int .i64 v.t, .slice nA v.n.length nc, .slice sA v.s.length sc, .slice lA v.l.length lc] 26)) (.cells #[.int .i64 xv.t, .slice xnA xv.n.length xnc, .slice xsA xv.s.length xsc, .slice xlA xv.l.length xlc] 26); rwa [World.size_alloc] at this
 obtain ⟨wb, hwb⟩ : ∃ wb, wb = wa.alloc (.cells #[.int .i64 v.t, .slice nA v.n.length nc, .slice sA v.s.length sc, .slice lA v.l.length lc, .int .i64 xv.t, .slice xnA xv.n.length xnc, .slice xsA xv.s.length xsc, .slice xlA xv.l.length xlc] 26) := ⟨_, rfl⟩
 have hgb : wa.grownBy wb none := by rw [hwb]; exact gb_alloc (gb_refl wa none) _
 have hrb : RdV wb wb.heap.size (some ⟨wa.heap.size, 0, none⟩) [v, xv] := by rw [hwb]; exact rdV_two ((h.gb hga (Nat.le_refl _)).up (by omega)) ((hx.gb hga (Nat.le_refl _)).up (by omega))
 have HR : Hid (Calls Tryz.prog 4 #[.slice (some ⟨wa.heap.size, 0, none⟩) 2 2] wb (RightR [v, xv] wb)) := hide (right7_any [v, xv] wb wb.heap.size (some ⟨wa.heap.size, 0, none⟩) 2 (by simp only [Vl.tots]; omega) (Nat.le_refl _) hrb)
 have HBV := hide hbv
 have HBX := hide hbx
 have HGA := hide hga
 have HGB := hide hgb
 have HWA := hide hwa
 have HWB := hide hwb
 obtain ⟨d0, d1, d2, d3⟩ : C4 wa w.heap.size 0 (.int .i64 v.t) (.slice nA v.n.length nc) (.slice sA v.s.length sc) (.slice lA v.l.length lc) := c4k hbv
 obtain ⟨e0, e1, e2, e3⟩ : C4 wa (w.heap.size + 1) 0 (.int .i64 xv.t) (.slice xnA xv.n.length xnc) (.slice xsA xv.s.length xsc) (.slice xlA xv.l.length xlc) := c4k hbx
 clear h hx hga hsa hgb hrb hwa hwb hbv hbx H ht
 go_enter Tryz.func3, Tryz.ntmps3
 go_upto_region 1 with fail
 rw [← HWA.out]
 go_cut [25] (fun b wc => CutO v xv wa b wc)
 case first =>
  go_wp2_with fail
  rw [← HWB.out]
  clear d0 d1 d2 d3 e0 e1 e2 e3
  refine HR.out.mono ?_
  rintro e w1 ⟨bb, rfl, hbb, hgw⟩
  have HG1 := hide (gb_trans HGB.out hgw (.inl rfl))
  clear hgw HR
  cases bb
  ·clear hbb
   go_wp2_with fail
   go_meet
   case rel => exact ⟨true, rfl, (fun h => by cases h), HG1.out⟩
  ·have HCK := hide (show checkV v = 0 ∧ checkV xv = 0 from ⟨hbb rfl _ (by simp), hbb rfl _ (by simp)⟩)
   clear hbb
   by_cases q1 : 1000 < n
   ·by_cases q2 : n ≤ 65531
    ·skip
     go_wp2_with fail
     go_meet
     case rel => exact ⟨true, rfl, (fun h => by cases h), HG1.out⟩
    ·skip
     go_wp2_with fail
     go_meet
     case rel => exact ⟨false, congrArg Value.bool (show _ = false by first | (simp; done) | (simp; omega)), (fun _ => HCK.out), HG1.out⟩
   ·skip
    go_wp2_with fail
    go_meet
    case rel => exact ⟨false, congrArg Value.bool (show _ = false by first | (simp; done) | (simp; omega)), (fun _ => HCK.out), HG1.out⟩
 case rest =>
  obtain ⟨r, rfl, hr, hgc⟩ := hcut
  have HGC := hide hgc
  clear d0 d1 d2 d3 e0 e1 e2 e3 HR
  cases r
  ·obtain ⟨hck, hcx⟩ := hr rfl
   have HC := hide (HH.out hck hcx)
   clear hgc hr hck hcx
   obtain ⟨Ww, rfl⟩ : ∃ Ww, Ww = wc := ⟨_, rfl⟩
   have HGS := hide (show w.grownBy Ww none from gb_trans HGA.out HGC.out (.inl rfl))
   have HGAS := hide (show wa.grownBy Ww none from HGC.out)
   have hbv := blk_keep HBV.out HGAS.out (by simp)
   obtain ⟨d0, d1, d2, d3⟩ : C4 Ww w.heap.size 0 (.int .i64 v.t) (.slice nA v.n.length nc) (.slice sA v.s.length sc) (.slice lA v.l.length lc) := c4k hbv
   clear hbv
   go_upto_region 4 with (go_at_call 6; refine (HC.out.a1 _ HGS.out).mono ?_; rintro e w4 ⟨anA, anc, asA, asc, alA, alc, f1, rfl, ho, hn, hg4⟩; have HO1 := hide ho; have HN1 := hide hn; have HG4 := hide hg4; clear ho hn hg4)
   obtain ⟨W2, hW2⟩ : ∃ W2, W2 = w4.alloc (.cells #[.int .i64 y1.t, .slice anA y1.n.length anc, .slice asA y1.s.length asc, .slice alA y1.l.length alc] 26) := ⟨_, rfl⟩
   rw [← hW2]
   have HGS2 := hide (show Ww.grownBy W2 none by rw [hW2]; exact gb_trans HG4.out (gb_alloc (gb_refl w4 none) _) (.inl rfl))
   have HBA := hide (show W2.heap[w4.heap.size]? = some (.cells #[.int .i64 y1.t, .slice anA y1.n.length anc, .slice asA y1.s.length asc, .slice alA y1.l.length alc] 26 (0, 0)) by rw [hW2]; exact heap_alloc_new w4 _)
   have HOA := hide (show VB W2 W2.heap.size y1 anA anc asA asc alA alc by rw [hW2]; exact (HO1.out.vb.gb (gb_alloc (gb_refl w4 none) _) (Nat.le_refl _)).up (by rw [World.size_alloc]; omega))
   have HLA := hide (show Ww.heap.size ≤ w4.heap.size from HG4.out.size)
   obtain ⟨ba, hba⟩ : ∃ ba, ba = w4.heap.size := ⟨_, rfl⟩
   rw [← hba] at HBA HLA ⊢
   clear hW2 hba HO1 HN1 HG4 d0 d1 d2 d3
   have hbv := blk_keep HBV.out (gb_trans HGAS.out HGS2.out (.inl rfl)) (by simp)
   obtain ⟨d0, d1, d2, d3⟩ : C4 W2 w.heap.size 0 (.int .i64 v.t) (.slice nA v.n.length nc) (.slice sA v.s.length sc) (.slice lA v.l.length lc) := c4k hbv
   clear hbv
   go_upto_region 5 with (go_at_call 7; refine (HC.out.b1 _ (gb_trans HGS.out HGS2.out (.inl rfl))).mono ?_; rintro e w5 ⟨bnA, bnc, bsA, bsc, blA, blc, f2, rfl, ho, hn, hg5⟩; have HO2 := hide ho; have HG5 := hide hg5; clear ho hn hg5)
   obtain ⟨W3, hW3⟩ : ∃ W3, W3 = w5.alloc (.cells #[.int .i64 y1.t, .slice bnA y1.n.length bnc, .slice bsA y1.s.length bsc, .slice blA y1.l.length blc] 26) := ⟨_, rfl⟩
   rw [← hW3]
   have HG23 := hide (show W2.grownBy W3 none by rw [hW3]; exact gb_trans HG5.out (gb_alloc (gb_refl w5 none) _) (.inl rfl))
   have HBB := hide (show W3.heap[w5.heap.size]? = some (.cells #[.int .i64 y1.t, .slice bnA y1.n.length bnc, .slice bsA y1.s.length bsc, .slice blA y1.l.length blc] 26 (0, 0)) by rw [hW3]; exact heap_alloc_new w5 _)
   have HOB := hide (show VB W3 W3.heap.size y1 bnA bnc bsA bsc blA blc by rw [hW3]; exact (HO2.out.vb.gb (gb_alloc (gb_refl w5 none) _) (Nat.le_refl _)).up (by rw [World.size_alloc]; omega))
   have HLB := hide (show ba < w5.heap.size by have := blk_lt HBA.out; have := HG5.out.size; omega)
   obtain ⟨bb, hbb⟩ : ∃ bb, bb = w5.heap.size := ⟨_, rfl⟩
   rw [← hbb] at HBB HLB ⊢
   have HBA3 := hide (blk_keep HBA.out HG23.out (by simp))
   have HOA3 := hide ((HOA.out.gb HG23.out (Nat.le_refl _)).up HG23.out.size)
   have HS := hide (show Sg Ww W3 ba bb from ⟨gb_trans HGS2.out HG23.out (.inl rfl), ⟨_, _, _, _, HBA3.out⟩, ⟨_, _, _, _, HBB.out⟩, HLA.out, HLB.out⟩)
   clear hW3 hbb HO2 HG5 HBA HOA HLA HLB HG23 HGS2 d0 d1 d2 d3
   obtain ⟨u0, u1, u2, u3⟩ : C4 W3 ba 0 (.int .i64 y1.t) (.slice anA y1.n.length anc) (.slice asA y1.s.length asc) (.slice alA y1.l.length alc) := c4k HBA3.out
   obtain ⟨x0, x1, x2, x3⟩ : C4 W3 bb 0 (.int .i64 y1.t) (.slice bnA y1.n.length bnc) (.slice bsA y1.s.length bsc) (.slice blA y1.l.length blc) := c4k HBB.out
   have hke : (k1 != k1) = false := by simp
   go_upto_region 7 with (first
    | (go_at_call 8; refine (rMatch_any y1 y1 _ _ anA anc asA asc alA alc bnA bnc bsA bsc blA blc HC.out.t1 HC.out.t1 (Nat.le_refl _) HOA3.out HOB.out).mono ?_; rintro e w6 ⟨rfl, hg6⟩; rw [Vl.same_refl]; have HG6 := hide hg6; clear hg6)
    | (go_at_call 9; refine (num7_any k1 _).mono ?_; rintro e w7 ⟨rfl, rfl⟩))
   have HSn := hide (HS.out.gb HG6.out)
   clear HS
   have HS := hide HSn.out
   clear HSn u0 u1 u2 u3 x0 x1 x2 x3 hke HBA3 HOA3 HBB HOB HG6
   obtain ⟨g0, g1, g2, g3, hga⟩ := HS.out.ha
   have hbv := blk_keep HBV.out (gb_trans HGAS.out HS.out.g (.inl rfl)) (by simp)
   obtain ⟨d0, d1, d2, d3⟩ : C4 w6 w.heap.size 0 (.int .i64 v.t) (.slice nA v.n.length nc) (.slice sA v.s.length sc) (.slice lA v.l.length lc) := c4k hbv
   clear hbv
   go_upto_region 8 with (go_at_call 10; refine (HC.out.a2 _ (gb_trans HGS.out HS.out.g (.inl rfl))).mono ?_; rintro e w4 ⟨anA, anc, asA, asc, alA, alc, f1, rfl, ho, hn, hg4⟩; have HO1 := hide ho; have HN1 := hide hn; have HG4 := hide hg4; have ha4 := blk_keep hga hg4 (by simp); have z0 := blk_frozen ha4 0; have z1 := blk_frozen ha4 1; have z2 := blk_frozen ha4 2; have z3 := blk_frozen ha4 3; have s0 : w4.cell? ⟨ba, 0, none⟩ = some g0 := (by { rw [blk_cell ha4]; rfl }); have s1 : w4.cell? ⟨ba, 1, none⟩ = some g1 := (by { rw [blk_cell ha4]; rfl }); have s2 : w4.cell? ⟨ba, 2, none⟩ = some g2 := (by { rw [blk_cell ha4]; rfl }); have s3 : w4.cell? ⟨ba, 3, none⟩ = some g3 := (by { rw [blk_cell ha4]; rfl }); clear ho hn hg4 ha4)
   obtain ⟨W4, hW4⟩ : ∃ W4, W4 = ((((w4.setCell ⟨ba, 0, none⟩ (.int .i64 y2.t)).setCell ⟨ba, 1, none⟩ (.slice anA y2.n.length anc)).setCell ⟨ba, 2, none⟩ (.slice asA y2.s.length asc)).setCell ⟨ba, 3, none⟩ (.slice alA y2.l.length alc)) := ⟨_, rfl⟩
   rw [← hW4]
   have HF := hide (HS.out.first HO1.out HN1.out HG4.out hW4)
   clear hW4 HO1 HN1 HG4 hga d0 d1 d2 d3 z0 z1 z2 z3 s0 s1 s2 s3 HS
   obtain ⟨g4, g5, g6, g7, hgb⟩ := HF.out.1.hb
   have hbv := blk_keep HBV.out (gb_trans HGAS.out HF.out.1.g (.inl rfl)) (by simp)
   obtain ⟨d0, d1, d2, d3⟩ : C4 W4 w.heap.size 0 (.int .i64 v.t) (.slice nA v.n.length nc) (.slice sA v.s.length sc) (.slice lA v.l.length lc) := c4k hbv
   clear hbv
   go_upto_region 9 with (go_at_call 11; refine (HC.out.b2 _ (gb_trans HGS.out HF.out.1.g (.inl rfl))).mono ?_; rintro e w5 ⟨bnA, bnc, bsA, bsc, blA, blc, f2, rfl, ho, hn, hg5⟩; have HO2 := hide ho; have HN2 := hide hn; have HG5 := hide hg5; have ha5 := blk_keep hgb hg5 (by simp); have z0 := blk_frozen ha5 0; have z1 := blk_frozen ha5 1; have z2 := blk_frozen ha5 2; have z3 := blk_frozen ha5 3; have s0 : w5.cell? ⟨bb, 0, none⟩ = some g4 := (by { rw [blk_cell ha5]; rfl }); have s1 : w5.cell? ⟨bb, 1, none⟩ = some g5 := (by { rw [blk_cell ha5]; rfl }); have s2 : w5.cell? ⟨bb, 2, none⟩ = some g6 := (by { rw [blk_cell ha5]; rfl }); have s3 : w5.cell? ⟨bb, 3, none⟩ = some g7 := (by { rw [blk_cell ha5]; rfl }); clear ho hn hg5 ha5)
   obtain ⟨W5, hW5⟩ : ∃ W5, W5 = ((((w5.setCell ⟨bb, 0, none⟩ (.int .i64 y2.t)).setCell ⟨bb, 1, none⟩ (.slice bnA y2.n.length bnc)).setCell ⟨bb, 2, none⟩ (.slice bsA y2.s.length bsc)).setCell ⟨bb, 3, none⟩ (.slice blA y2.l.length blc)) := ⟨_, rfl⟩
   rw [← hW5]
   have HQ := hide (HF.out.1.second HF.out.2.1 HF.out.2.2.1 HF.out.2.2.2 HO2.out HN2.out HG5.out hW5)
   clear hW5 HO2 HN2 HG5 hgb d0 d1 d2 d3 z0 z1 z2 z3 s0 s1 s2 s3 HF
   have HS := hide HQ.out.1
   have HBA3 := hide HQ.out.2.1
   have HOA3 := hide HQ.out.2.2.1
   have HBB := hide HQ.out.2.2.2.1
   have HOB := hide HQ.out.2.2.2.2
   clear HQ
   obtain ⟨u0, u1, u2, u3⟩ : C4 W5 ba 0 (.int .i64 y2.t) (.slice anA y2.n.length anc) (.slice asA y2.s.length asc) (.slice alA y2.l.length alc) := c4k HBA3.out
   obtain ⟨x0, x1, x2, x3⟩ : C4 W5 bb 0 (.int .i64 y2.t) (.slice bnA y2.n.length bnc) (.slice bsA y2.s.length bsc) (.slice blA y2.l.length blc) := c4k HBB.out
   have hke : (k2 != k2) = false := by simp
   go_upto_region 11 with (first
    | (go_at_call 8; refine (rMatch_any y2 y2 _ _ anA anc asA asc alA alc bnA bnc bsA bsc blA blc HC.out.t2 HC.out.t2 (Nat.le_refl _) HOA3.out HOB.out).mono ?_; rintro e w6 ⟨rfl, hg6⟩; rw [Vl.same_refl]; have HG6 := hide hg6; clear hg6)
    | (go_at_call 9; refine (num7_any k2 _).mono ?_; rintro e w7 ⟨rfl, rfl⟩))
   have HSn := hide (HS.out.gb HG6.out)
   clear HS
   have HS := hide HSn.out
   clear HSn u0 u1 u2 u3 x0 x1 x2 x3 hke HBA3 HOA3 HBB HOB HG6
   obtain ⟨g0, g1, g2, g3, hga⟩ := HS.out.ha
   have hbv := blk_keep HBV.out (gb_trans HGAS.out HS.out.g (.inl rfl)) (by simp)
   obtain ⟨d0, d1, d2, d3⟩ : C4 w6 w.heap.size 0 (.int .i64 v.t) (.slice nA v.n.length nc) (.slice sA v.s.length sc) (.slice lA v.l.length lc) := c4k hbv
   clear hbv
   go_upto_region 12 with (go_at_call 12; refine (HC.out.a3 _ (gb_trans HGS.out HS.out.g (.inl rfl))).mono ?_; rintro e w4 ⟨anA, anc, asA, asc, alA, alc, f1, rfl, ho, hn, hg4⟩; have HO1 := hide ho; have HN1 := hide hn; have HG4 := hide hg4; have ha4 := blk_keep hga hg4 (by simp); have z0 := blk_frozen ha4 0; have z1 := blk_frozen ha4 1; have z2 := blk_frozen ha4 2; have z3 := blk_frozen ha4 3; have s0 : w4.cell? ⟨ba, 0, none⟩ = some g0 := (by { rw [blk_cell ha4]; rfl }); have s1 : w4.cell? ⟨ba, 1, none⟩ = some g1 := (by { rw [blk_cell ha4]; rfl }); have s2 : w4.cell? ⟨ba, 2, none⟩ = some g2 := (by { rw [blk_cell ha4]; rfl }); have s3 : w4.cell? ⟨ba, 3, none⟩ = some g3 := (by { rw [blk_cell ha4]; rfl }); clear ho hn hg4 ha4)
   obtain ⟨W4, hW4⟩ : ∃ W4, W4 = ((((w4.setCell ⟨ba, 0, none⟩ (.int .i64 y3.t)).setCell ⟨ba, 1, none⟩ (.slice anA y3.n.length anc)).setCell ⟨ba, 2, none⟩ (.slice asA y3.s.length asc)).setCell ⟨ba, 3, none⟩ (.slice alA y3.l.length alc)) := ⟨_, rfl⟩
   rw [← hW4]
   have HF := hide (HS.out.first HO1.out HN1.out HG4.out hW4)
   clear hW4 HO1 HN1 HG4 hga d0 d1 d2 d3 z0 z1 z2 z3 s0 s1 s2 s3 HS
   obtain ⟨g4, g5, g6, g7, hgb⟩ := HF.out.1.hb
   have hbv := blk_keep HBV.out (gb_trans HGAS.out HF.out.1.g (.inl rfl)) (by simp)
   obtain ⟨d0, d1, d2, d3⟩ : C4 W4 w.heap.size 0 (.int .i64 v.t) (.slice nA v.n.length nc) (.slice sA v.s.length sc) (.slice lA v.l.length lc) := c4k hbv
   clear hbv
   go_upto_region 13 with (go_at_call 13; refine (HC.out.b3 _ (gb_trans HGS.out HF.out.1.g (.inl rfl))).mono ?_; rintro e w5 ⟨bnA, bnc, bsA, bsc, blA, blc, f2, rfl, ho, hn, hg5⟩; have HO2 := hide ho; have HN2 := hide hn; have HG5 := hide hg5; have ha5 := blk_keep hgb hg5 (by simp); have z0 := blk_frozen ha5 0; have z1 := blk_frozen ha5 1; have z2 := blk_frozen ha5 2; have z3 := blk_frozen ha5 3; have s0 : w5.cell? ⟨bb, 0, none⟩ = some g4 := (by { rw [blk_cell ha5]; rfl }); have s1 : w5.cell? ⟨bb, 1, none⟩ = some g5 := (by { rw [blk_cell ha5]; rfl }); have s2 : w5.cell? ⟨bb, 2, none⟩ = some g6 := (by { rw [blk_cell ha5]; rfl }); have s3 : w5.cell? ⟨bb, 3, none⟩ = some g7 := (by { rw [blk_cell ha5]; rfl }); clear ho hn hg5 ha5)
   obtain ⟨W5, hW5⟩ : ∃ W5, W5 = ((((w5.setCell ⟨bb, 0, none⟩ (.int .i64 y3.t)).setCell ⟨bb, 1, none⟩ (.slice bnA y3.n.length bnc)).setCell ⟨bb, 2, none⟩ (.slice bsA y3.s.length bsc)).setCell ⟨bb, 3, none⟩ (.slice blA y3.l.length blc)) := ⟨_, rfl⟩
   rw [← hW5]
   have HQ := hide (HF.out.1.second HF.out.2.1 HF.out.2.2.1 HF.out.2.2.2 HO2.out HN2.out HG5.out hW5)
   clear hW5 HO2 HN2 HG5 hgb d0 d1 d2 d3 z0 z1 z2 z3 s0 s1 s2 s3 HF
   have HS := hide HQ.out.1
   have HBA3 := hide HQ.out.2.1
   have HOA3 := hide HQ.out.2.2.1
   have HBB := hide HQ.out.2.2.2.1
   have HOB := hide HQ.out.2.2.2.2
   clear HQ
   obtain ⟨u0, u1, u2, u3⟩ : C4 W5 ba 0 (.int .i64 y3.t) (.slice anA y3.n.length anc) (.slice asA y3.s.length asc) (.slice alA y3.l.length alc) := c4k HBA3.out
   obtain ⟨x0, x1, x2, x3⟩ : C4 W5 bb 0 (.int .i64 y3.t) (.slice bnA y3.n.length bnc) (.slice bsA y3.s.length bsc) (.slice blA y3.l.length blc) := c4k HBB.out
   have hke : (k3 != k3) = false := by simp
   go_upto_region 15 with (first
    | (go_at_call 8; refine (rMatch_any y3 y3 _ _ anA anc asA asc alA alc bnA bnc bsA bsc blA blc HC.out.t3 HC.out.t3 (Nat.le_refl _) HOA3.out HOB.out).mono ?_; rintro e w6 ⟨rfl, hg6⟩; rw [Vl.same_refl]; have HG6 := hide hg6; clear hg6)
    | (go_at_call 9; refine (num7_any k3 _).mono ?_; rintro e w7 ⟨rfl, rfl⟩))
   have HSn := hide (HS.out.gb HG6.out)
   clear HS
   have HS := hide HSn.out
   clear HSn u0 u1 u2 u3 x0 x1 x2 x3 hke HBA3 HOA3 HBB HOB HG6
   obtain ⟨g0, g1, g2, g3, hga⟩ := HS.out.ha
   have hbv := blk_keep HBV.out (gb_trans HGAS.out HS.out.g (.inl rfl)) (by simp)
   obtain ⟨d0, d1, d2, d3⟩ : C4 w6 w.heap.size 0 (.int .i64 v.t) (.slice nA v.n.length nc) (.slice sA v.s.length sc) (.slice lA v.l.length lc) := c4k hbv
   clear hbv
   go_upto_region 16 with (go_at_call 14; refine (HC.out.a4 _ (gb_trans HGS.out HS.out.g (.inl rfl))).mono ?_; rintro e w4 ⟨anA, anc, asA, asc, alA, alc, f1, rfl, ho, hn, hg4⟩; have HO1 := hide ho; have HN1 := hide hn; have HG4 := hide hg4; have ha4 := blk_keep hga hg4 (by simp); have z0 := blk_frozen ha4 0; have z1 := blk_frozen ha4 1; have z2 := blk_frozen ha4 2; have z3 := blk_frozen ha4 3; have s0 : w4.cell? ⟨ba, 0, none⟩ = some g0 := (by { rw [blk_cell ha4]; rfl }); have s1 : w4.cell? ⟨ba, 1, none⟩ = some g1 := (by { rw [blk_cell ha4]; rfl }); have s2 : w4.cell? ⟨ba, 2, none⟩ = some g2 := (by { rw [blk_cell ha4]; rfl }); have s3 : w4.cell? ⟨ba, 3, none⟩ = some g3 := (by { rw [blk_cell ha4]; rfl }); clear ho hn hg4 ha4)
   obtain ⟨W4, hW4⟩ : ∃ W4, W4 = ((((w4.setCell ⟨ba, 0, none⟩ (.int .i64 y4.t)).setCell ⟨ba, 1, none⟩ (.slice anA y4.n.length anc)).setCell ⟨ba, 2, none⟩ (.slice asA y4.s.length asc)).setCell ⟨ba, 3, none⟩ (.slice alA y4.l.length alc)) := ⟨_, rfl⟩
   rw [← hW4]
   have HF := hide (HS.out.first HO1.out HN1.out HG4.out hW4)
   clear hW4 HO1 HN1 HG4 hga d0 d1 d2 d3 z0 z1 z2 z3 s0 s1 s2 s3 HS
   obtain ⟨g4, g5, g6, g7, hgb⟩ := HF.out.1.hb
   have hbv := blk_keep HBV.out (gb_trans HGAS.out HF.out.1.g (.inl rfl)) (by simp)
   obtain ⟨d0, d1, d2, d3⟩ : C4 W4 w.heap.size 0 (.int .i64 v.t) (.slice nA v.n.length nc) (.slice sA v.s.length sc) (.slice lA v.l.length lc) := c4k hbv
   clear hbv
   go_upto_region 17 with (go_at_call 15; refine (HC.out.b4 _ (gb_trans HGS.out HF.out.1.g (.inl rfl))).mono ?_; rintro e w5 ⟨bnA, bnc, bsA, bsc, blA, blc, f2, rfl, ho, hn, hg5⟩; have HO2 := hide ho; have HN2 := hide hn; have HG5 := hide hg5; have ha5 := blk_keep hgb hg5 (by simp); have z0 := blk_frozen ha5 0; have z1 := blk_frozen ha5 1; have z2 := blk_frozen ha5 2; have z3 := blk_frozen ha5 3; have s0 : w5.cell? ⟨bb, 0, none⟩ = some g4 := (by { rw [blk_cell ha5]; rfl }); have s1 : w5.cell? ⟨bb, 1, none⟩ = some g5 := (by { rw [blk_cell ha5]; rfl }); have s2 : w5.cell? ⟨bb, 2, none⟩ = some g6 := (by { rw [blk_cell ha5]; rfl }); have s3 : w5.cell? ⟨bb, 3, none⟩ = some g7 := (by { rw [blk_cell ha5]; rfl }); clear ho hn hg5 ha5)
   obtain ⟨W5, hW5⟩ : ∃ W5, W5 = ((((w5.setCell ⟨bb, 0, none⟩ (.int .i64 y4.t)).setCell ⟨bb, 1, none⟩ (.slice bnA y4.n.length bnc)).setCell ⟨bb, 2, none⟩ (.slice bsA y4.s.length bsc)).setCell ⟨bb, 3, none⟩ (.slice blA y4.l.length blc)) := ⟨_, rfl⟩
   rw [← hW5]
   have HQ := hide (HF.out.1.second HF.out.2.1 HF.out.2.2.1 HF.out.2.2.2 HO2.out HN2.out HG5.out hW5)
   clear hW5 HO2 HN2 HG5 hgb d0 d1 d2 d3 z0 z1 z2 z3 s0 s1 s2 s3 HF
   have HS := hide HQ.out.1
   have HBA3 := hide HQ.out.2.1
   have HOA3 := hide HQ.out.2.2.1
   have HBB := hide HQ.out.2.2.2.1
   have HOB := hide HQ.out.2.2.2.2
   clear HQ
   obtain ⟨u0, u1, u2, u3⟩ : C4 W5 ba 0 (.int .i64 y4.t) (.slice anA y4.n.length anc) (.slice asA y4.s.length asc) (.slice alA y4.l.length alc) := c4k HBA3.out
   obtain ⟨x0, x1, x2, x3⟩ : C4 W5 bb 0 (.int .i64 y4.t) (.slice bnA y4.n.length bnc) (.slice bsA y4.s.length bsc) (.slice blA y4.l.length blc) := c4k HBB.out
   have hke : (k4 != k4) = false := by simp
   go_upto_region 19 with (first
    | (go_at_call 8; refine (rMatch_any y4 y4 _ _ anA anc asA asc alA alc bnA bnc bsA bsc blA blc HC.out.t4 HC.out.t4 (Nat.le_refl _) HOA3.out HOB.out).mono ?_; rintro e w6 ⟨rfl, hg6⟩; rw [Vl.same_refl]; have HG6 := hide hg6; clear hg6)
    | (go_at_call 9; refine (num7_any k4 _).mono ?_; rintro e w7 ⟨rfl, rfl⟩))
   have HSn := hide (HS.out.gb HG6.out)
   clear HS
   have HS := hide HSn.out
   clear HSn u0 u1 u2 u3 x0 x1 x2 x3 hke HBA3 HOA3 HBB HOB HG6
   obtain ⟨g0, g1, g2, g3, hga⟩ := HS.out.ha
   have hbv := blk_keep HBV.out (gb_trans HGAS.out HS.out.g (.inl rfl)) (by simp)
   obtain ⟨d0, d1, d2, d3⟩ : C4 w6 w.heap.size 0 (.int .i64 v.t) (.slice nA v.n.length nc) (.slice sA v.s.length sc) (.slice lA v.l.length lc) := c4k hbv
   clear hbv
   go_upto_region 20 with (go_at_call 16; refine (HC.out.a5 _ (gb_trans HGS.out HS.out.g (.inl rfl))).mono ?_; rintro e w4 ⟨anA, anc, asA, asc, alA, alc, f1, rfl, ho, hn, hg4⟩; have HO1 := hide ho; have HN1 := hide hn; have HG4 := hide hg4; have ha4 := blk_keep hga hg4 (by simp); have z0 := blk_frozen ha4 0; have z1 := blk_frozen ha4 1; have z2 := blk_frozen ha4 2; have z3 := blk_frozen ha4 3; have s0 : w4.cell? ⟨ba, 0, none⟩ = some g0 := (by { rw [blk_cell ha4]; rfl }); have s1 : w4.cell? ⟨ba, 1, none⟩ = some g1 := (by { rw [blk_cell ha4]; rfl }); have s2 : w4.cell? ⟨ba, 2, none⟩ = some g2 := (by { rw [blk_cell ha4]; rfl }); have s3 : w4.cell? ⟨ba, 3, none⟩ = some g3 := (by { rw [blk_cell ha4]; rfl }); clear ho hn hg4 ha4)
   obtain ⟨W4, hW4⟩ : ∃ W4, W4 = ((((w4.setCell ⟨ba, 0, none⟩ (.int .i64 y5.t)).setCell ⟨ba, 1, none⟩ (.slice anA y5.n.length anc)).setCell ⟨ba, 2, none⟩ (.slice asA y5.s.length asc)).setCell ⟨ba, 3, none⟩ (.slice alA y5.l.length alc)) := ⟨_, rfl⟩
   rw [← hW4]
   have HF := hide (HS.out.first HO1.out HN1.out HG4.out hW4)
   clear hW4 HO1 HN1 HG4 hga d0 d1 d2 d3 z0 z1 z2 z3 s0 s1 s2 s3 HS
   obtain ⟨g4, g5, g6, g7, hgb⟩ := HF.out.1.hb
   have hbv := blk_keep HBV.out (gb_trans HGAS.out HF.out.1.g (.inl rfl)) (by simp)
   obtain ⟨d0, d1, d2, d3⟩ : C4 W4 w.heap.size 0 (.int .i64 v.t) (.slice nA v.n.length nc) (.slice sA v.s.length sc) (.slice lA v.l.length lc) := c4k hbv
   clear hbv
   go_upto_region 21 with (go_at_call 17; refine (HC.out.b5 _ (gb_trans HGS.out HF.out.1.g (.inl rfl))).mono ?_; rintro e w5 ⟨bnA, bnc, bsA, bsc, blA, blc, f2, rfl, ho, hn, hg5⟩; have HO2 := hide ho; have HN2 := hide hn; have HG5 := hide hg5; have ha5 := blk_keep hgb hg5 (by simp); have z0 := blk_frozen ha5 0; have z1 := blk_frozen ha5 1; have z2 := blk_frozen ha5 2; have z3 := blk_frozen ha5 3; have s0 : w5.cell? ⟨bb, 0, none⟩ = some g4 := (by { rw [blk_cell ha5]; rfl }); have s1 : w5.cell? ⟨bb, 1, none⟩ = some g5 := (by { rw [blk_cell ha5]; rfl }); have s2 : w5.cell? ⟨bb, 2, none⟩ = some g6 := (by { rw [blk_cell ha5]; rfl }); have s3 : w5.cell? ⟨bb, 3, none⟩ = some g7 := (by { rw [blk_cell ha5]; rfl }); clear ho hn hg5 ha5)
   obtain ⟨W5, hW5⟩ : ∃ W5, W5 = ((((w5.setCell ⟨bb, 0, none⟩ (.int .i64 y5.t)).setCell ⟨bb, 1, none⟩ (.slice bnA y5.n.length bnc)).setCell ⟨bb, 2, none⟩ (.slice bsA y5.s.length bsc)).setCell ⟨bb, 3, none⟩ (.slice blA y5.l.length blc)) := ⟨_, rfl⟩
   rw [← hW5]
   have HQ := hide (HF.out.1.second HF.out.2.1 HF.out.2.2.1 HF.out.2.2.2 HO2.out HN2.out HG5.out hW5)
   clear hW5 HO2 HN2 HG5 hgb d0 d1 d2 d3 z0 z1 z2 z3 s0 s1 s2 s3 HF
   have HS := hide HQ.out.1
   have HBA3 := hide HQ.out.2.1
   have HOA3 := hide HQ.out.2.2.1
   have HBB := hide HQ.out.2.2.2.1
   have HOB := hide HQ.out.2.2.2.2
   clear HQ
   obtain ⟨u0, u1, u2, u3⟩ : C4 W5 ba 0 (.int .i64 y5.t) (.slice anA y5.n.length anc) (.slice asA y5.s.length asc) (.slice alA y5.l.length alc) := c4k HBA3.out
   obtain ⟨x0, x1, x2, x3⟩ : C4 W5 bb 0 (.int .i64 y5.t) (.slice bnA y5.n.length bnc) (.slice bsA y5.s.length bsc) (.slice blA y5.l.length blc) := c4k HBB.out
   have hke : (k5 != k5) = false := by simp
   go_upto_region 23 with (first
    | (go_at_call 8; refine (rMatch_any y5 y5 _ _ anA anc asA asc alA alc bnA bnc bsA bsc blA blc HC.out.t5 HC.out.t5 (Nat.le_refl _) HOA3.out HOB.out).mono ?_; rintro e w6 ⟨rfl, hg6⟩; rw [Vl.same_refl]; have HG6 := hide hg6; clear hg6)
    | (go_at_call 9; refine (num7_any k5 _).mono ?_; rintro e w7 ⟨rfl, rfl⟩))
   have HSn := hide (HS.out.gb HG6.out)
   clear HS
   have HS := hide HSn.out
   clear HSn u0 u1 u2 u3 x0 x1 x2 x3 hke HBA3 HOA3 HBB HOB HG6
   obtain ⟨g0, g1, g2, g3, hga⟩ := HS.out.ha
   have hbv := blk_keep HBV.out (gb_trans HGAS.out HS.out.g (.inl rfl)) (by simp)
   have hbx := blk_keep HBX.out (gb_trans HGAS.out HS.out.g (.inl rfl)) (by simp)
   obtain ⟨e0, e1, e2, e3⟩ : C4 w6 (w.heap.size + 1) 0 (.int .i64 xv.t) (.slice xnA xv.n.length xnc) (.slice xsA xv.s.length xsc) (.slice xlA xv.l.length xlc) := c4k hbx
   clear hbx
   obtain ⟨d0, d1, d2, d3⟩ : C4 w6 w.heap.size 0 (.int .i64 v.t) (.slice nA v.n.length nc) (.slice sA v.s.length sc) (.slice lA v.l.length lc) := c4k hbv
   clear hbv
   go_upto_region 24 with (go_at_call 18; refine (HC.out.a6 _ (gb_trans HGS.out HS.out.g (.inl rfl))).mono ?_; rintro e w4 ⟨anA, anc, asA, asc, alA, alc, f1, rfl, ho, hn, hg4⟩; have HO1 := hide ho; have HN1 := hide hn; have HG4 := hide hg4; have ha4 := blk_keep hga hg4 (by simp); have z0 := blk_frozen ha4 0; have z1 := blk_frozen ha4 1; have z2 := blk_frozen ha4 2; have z3 := blk_frozen ha4 3; have s0 : w4.cell? ⟨ba, 0, none⟩ = some g0 := (by { rw [blk_cell ha4]; rfl }); have s1 : w4.cell? ⟨ba, 1, none⟩ = some g1 := (by { rw [blk_cell ha4]; rfl }); have s2 : w4.cell? ⟨ba, 2, none⟩ = some g2 := (by { rw [blk_cell ha4]; rfl }); have s3 : w4.cell? ⟨ba, 3, none⟩ = some g3 := (by { rw [blk_cell ha4]; rfl }); clear ho hn hg4 ha4)
   obtain ⟨W4, hW4⟩ : ∃ W4, W4 = ((((w4.setCell ⟨ba, 0, none⟩ (.int .i64 y6.t)).setCell ⟨ba, 1, none⟩ (.slice anA y6.n.length anc)).setCell ⟨ba, 2, none⟩ (.slice asA y6.s.length asc)).setCell ⟨ba, 3, none⟩ (.slice alA y6.l.length alc)) := ⟨_, rfl⟩
   rw [← hW4]
   have HF := hide (HS.out.first HO1.out HN1.out HG4.out hW4)
   clear hW4 HO1 HN1 HG4 hga d0 d1 d2 d3 e0 e1 e2 e3 z0 z1 z2 z3 s0 s1 s2 s3 HS
   obtain ⟨g4, g5, g6, g7, hgb⟩ := HF.out.1.hb
   have hbv := blk_keep HBV.out (gb_trans HGAS.out HF.out.1.g (.inl rfl)) (by simp)
   have hbx := blk_keep HBX.out (gb_trans HGAS.out HF.out.1.g (.inl rfl)) (by simp)
   obtain ⟨e0, e1, e2, e3⟩ : C4 W4 (w.heap.size + 1) 0 (.int .i64 xv.t) (.slice xnA xv.n.length xnc) (.slice xsA xv.s.length xsc) (.slice xlA xv.l.length xlc) := c4k hbx
   clear hbx
   obtain ⟨d0, d1, d2, d3⟩ : C4 W4 w.heap.size 0 (.int .i64 v.t) (.slice nA v.n.length nc) (.slice sA v.s.length sc) (.slice lA v.l.length lc) := c4k hbv
   clear hbv
   go_upto_region 25 with (go_at_call 19; refine (HC.out.b6 _ (gb_trans HGS.out HF.out.1.g (.inl rfl))).mono ?_; rintro e w5 ⟨bnA, bnc, bsA, bsc, blA, blc, f2, rfl, ho, hn, hg5⟩; have HO2 := hide ho; have HN2 := hide hn; have HG5 := hide hg5; have ha5 := blk_keep hgb hg5 (by simp); have z0 := blk_frozen ha5 0; have z1 := blk_frozen ha5 1; have z2 := blk_frozen ha5 2; have z3 := blk_frozen ha5 3; have s0 : w5.cell? ⟨bb, 0, none⟩ = some g4 := (by { rw [blk_cell ha5]; rfl }); have s1 : w5.cell? ⟨bb, 1, none⟩ = some g5 := (by { rw [blk_cell ha5]; rfl }); have s2 : w5.cell? ⟨bb, 2, none⟩ = some g6 := (by { rw [blk_cell ha5]; rfl }); have s3 : w5.cell? ⟨bb, 3, none⟩ = some g7 := (by { rw [blk_cell ha5]; rfl }); clear ho hn hg5 ha5)
   obtain ⟨W5, hW5⟩ : ∃ W5, W5 = ((((w5.setCell ⟨bb, 0, none⟩ (.int .i64 y6.t)).setCell ⟨bb, 1, none⟩ (.slice bnA y6.n.length bnc)).setCell ⟨bb, 2, none⟩ (.slice bsA y6.s.length bsc)).setCell ⟨bb, 3, none⟩ (.slice blA y6.l.length blc)) := ⟨_, rfl⟩
   rw [← hW5]
   have HQ := hide (HF.out.1.second HF.out.2.1 HF.out.2.2.1 HF.out.2.2.2 HO2.out HN2.out HG5.out hW5)
   clear hW5 HO2 HN2 HG5 hgb d0 d1 d2 d3 e0 e1 e2 e3 z0 z1 z2 z3 s0 s1 s2 s3 HF
   have HS := hide HQ.out.1
   have HBA3 := hide HQ.out.2.1
   have HOA3 := hide HQ.out.2.2.1
   have HBB := hide HQ.out.2.2.2.1
   have HOB := hide HQ.out.2.2.2.2
   clear HQ
   obtain ⟨u0, u1, u2, u3⟩ : C4 W5 ba 0 (.int .i64 y6.t) (.slice anA y6.n.length anc) (.slice asA y6.s.length asc) (.slice alA y6.l.length alc) := c4k HBA3.out
   obtain ⟨x0, x1, x2, x3⟩ : C4 W5 bb 0 (.int .i64 y6.t) (.slice bnA y6.n.length bnc) (.slice bsA y6.s.length bsc) (.slice blA y6.l.length blc) := c4k HBB.out
   have hke : (k6 == k6) = true := by simp
   go_wp2_with fail
   refine (rMatch_any y6 y6 _ _ anA anc asA asc alA alc bnA bnc bsA bsc blA blc HC.out.t6 HC.out.t6 (Nat.le_refl _) HOA3.out HOB.out).mono ?_
   rintro e w6x ⟨rfl, hg6⟩
   rw [Vl.same_refl]
   have HG6 := hide hg6
   clear hg6 u0 u1 u2 u3 x0 x1 x2 x3
   go_wp2_with fail
   refine (num7_any k6 _).mono ?_
   rintro e w7 ⟨rfl, rfl⟩
   go_wp2_with fail
   refine (live7_any _).mono ?_
   rintro e wl ⟨rfl, hgl⟩
   have HGL := hide (gb_trans (gb_trans HGS.out (gb_trans HS.out.g HG6.out (.inl rfl)) (.inl rfl)) hgl (.inl rfl))
   clear hgl
   go_wp2_with fail
   exact bodyPost_ret (v := .bool true) (by simp [results, Tryz.results3, go_sem]) rfl ⟨rfl, HGL.out⟩
  ·clear hr hgc
   go_wp2_with fail
   refine (live7_any _).mono ?_
   rintro e wl ⟨rfl, hgl⟩
   have HGL := hide (gb_trans (gb_trans HGA.out HGC.out (.inl rfl)) hgl (.inl rfl))
   clear hgl
   go_wp2_with fail
   exact bodyPost_ret (v := .bool true) (by simp [results, Tryz.results3, go_sem]) rfl ⟨rfl, HGL.out⟩
end Go.Proofs.YtbmgodmfpoappaaGreat
