/-
  The document's Fill, where it tells an error.
-/
import Derived.Test.YtbmgodmfpoappaaGreatQUh
import Derived.Test.YtbmgodmfpoappaaGreatQUx
import Derived.Test.YtbmgodmfpoappaaGreatQQn
import Derived.Test.YtbmgodmfpoappaaGreatQKf
namespace Go.Proofs.YtbmgodmfpoappaaGreat
open Go.RowKit
attribute [local go_sem ↓] Go.wp_at_zero Go.wp_at_succ
set_option maxHeartbeats 8000000 in
set_option maxRecDepth 100000 in
theorem rFill_no (x : Vl) (xnA : Option Addr) (xnc : Nat) (xsA : Option Addr) (xsc : Nat) (xlA : Option Addr) (xlc : Nat) (v : Vl) (w : World) (nA : Option Addr) (nc : Nat) (sA : Option Addr) (sc : Nat) (lA : Option Addr) (lc : Nat) (hlow : -1000 ≤ v.t) (hlx : -1000 ≤ x.t ∧ x.t ≤ 1000) (hn : rFlat v.t = false ∨ rAtom x.t = false ∨ -x.t ≠ rkd v.t) :
  Calls Tryz.prog 19 #[.agg #[.int .i64 x.t, .slice xnA x.n.length xnc, .slice xsA x.s.length xsc, .slice xlA x.l.length xlc], .agg #[.int .i64 v.t, .slice nA v.n.length nc, .slice sA v.s.length sc, .slice lA v.l.length lc]] w (ErrV 31 w) := by
 obtain ⟨wa, hwa⟩ : ∃ wa, wa = ((w.alloc (.cells #[.int .i64 x.t, .slice xnA x.n.length xnc, .slice xsA x.s.length xsc, .slice xlA x.l.length xlc] 26)).alloc (.cells #[.int .i64 v.t, .slice nA v.n.length nc, .slice sA v.s.length sc, .slice lA v.l.length lc] 26)).alloc (.cells #[.int .i64 0, .slice none 0 0, .slice none 0 0, .slice none 0 0] 26) := ⟨_, rfl⟩
 have by_ : wa.heap[w.heap.size]? = some (.cells #[.int .i64 x.t, .slice xnA x.n.length xnc, .slice xsA x.s.length xsc, .slice xlA x.l.length xlc] 26 (0, 0)) := by rw [hwa]; exact (Below.heap_alloc _ _ _ (by rw [World.size_alloc, World.size_alloc]; omega)).trans ((Below.heap_alloc _ _ _ (by rw [World.size_alloc]; omega)).trans (heap_alloc_new w _))
 have bx : wa.heap[w.heap.size + 1]? = some (.cells #[.int .i64 v.t, .slice nA v.n.length nc, .slice sA v.s.length sc, .slice lA v.l.length lc] 26 (0, 0)) := by rw [hwa]; refine (Below.heap_alloc _ _ _ (by rw [World.size_alloc, World.size_alloc]; omega)).trans ?_; have := heap_alloc_new (w.alloc (.cells #[.int .i64 x.t, .slice xnA x.n.length xnc, .slice xsA x.s.length xsc, .slice xlA x.l.length xlc] 26)) (.cells #[.int .i64 v.t, .slice nA v.n.length nc, .slice sA v.s.length sc, .slice lA v.l.length lc] 26); rwa [World.size_alloc] at this
 have bz : wa.heap[w.heap.size + 1 + 1]? = some (.cells #[.int .i64 0, .slice none 0 0, .slice none 0 0, .slice none 0 0] 26 (0, 0)) := by rw [hwa]; have := heap_alloc_new ((w.alloc (.cells #[.int .i64 x.t, .slice xnA x.n.length xnc, .slice xsA x.s.length xsc, .slice xlA x.l.length xlc] 26)).alloc (.cells #[.int .i64 v.t, .slice nA v.n.length nc, .slice sA v.s.length sc, .slice lA v.l.length lc] 26)) (.cells #[.int .i64 0, .slice none 0 0, .slice none 0 0, .slice none 0 0] 26); rwa [World.size_alloc, World.size_alloc] at this
 have HBY := hide by_
 have HBX := hide bx
 have HBZ := hide bz
 have HSZ := hide (show wa.heap.size = w.heap.size + 3 by rw [hwa]; simp)
 have HG := hide (show w.grownBy wa none by rw [hwa]; exact gb_alloc (gb_alloc (gb_alloc (gb_refl w none) _) _) _)
 have HWE := hide hwa
 obtain ⟨c0, c1, c2, c3⟩ := c4k (blk_keep HBX.out (gb_refl wa none) (by simp))
 obtain ⟨e0, e1, e2, e3⟩ := c4k (blk_keep HBY.out (gb_refl wa none) (by simp))
 have hfl := fun w2 => rFlat_any v.t (.slice nA v.n.length nc) (.slice sA v.s.length sc) (.slice lA v.l.length lc) w2
 have HKV := hide (fun w2 => rKind_any v.t hlow (.slice nA v.n.length nc) (.slice sA v.s.length sc) (.slice lA v.l.length lc) w2)
 have hat := fun w2 => rAtom_any x.t (.slice xnA x.n.length xnc) (.slice xsA x.s.length xsc) (.slice xlA x.l.length xlc) w2
 have hxw : IntKind.i64.wrap (-x.t) = -x.t := by rw [IntKind.wrap_i64]; omega
 generalize rkd v.t = kv at *
 have HXW := hide hxw
 cases hf : rFlat v.t
 ·rw [hf] at hfl
  have HFLT := hide hfl
  clear hn by_ bx bz hwa hat hfl hf hxw
  go_enter Tryz.func19, Tryz.ntmps19
  go_upto_region 1 with fail
  rw [← HWE.out]
  have HCV := hide (show C4 wa (w.heap.size + 1) 0 _ _ _ _ from ⟨c0, c1, c2, c3⟩)
  have HCX := hide (show C4 wa w.heap.size 0 _ _ _ _ from ⟨e0, e1, e2, e3⟩)
  clear c0 c1 c2 c3 e0 e1 e2 e3
  refine wp_region_facts' 15 (by kernel_rfl) (by kernel_rfl) ?_
  intro A O W L HA HO HW HL
  simp only [List.take_succ_cons, List.take_zero]
  have HS := hide (show A.tmps.size = 57 by rw [HA.out]; rfl)
  have HGW := hide (show wa.grownBy W none by rw [HW.out]; exact gb_drew (gb_refl wa none))
  have A2 := hide (show A.eval (.tmp 2) = .pointer (some ⟨w.heap.size, 0, none⟩) by rw [HA.out]; rfl)
  have A3 := hide (show A.eval (.tmp 3) = .pointer (some ⟨w.heap.size + 1, 0, none⟩) by rw [HA.out]; rfl)
  refine wpFacts_lit (.agg #[.int .i64 v.t, .slice nA v.n.length nc, .slice sA v.s.length sc, .slice lA v.l.length lc]) rfl ?_ ?_
  ·intro a wq hw hl
   have e3 : a.tmps[3]?.getD undef = .pointer (some ⟨w.heap.size + 1, 0, none⟩) := (hl 3 (by first | (simp [Op.operands]; done) | simp [Op.operands, Call.operands]) (by rw [HS.out]; decide)).trans A3.out
   have c0 := cell_gb HCV.out.c0 (gb_trans HGW.out hw (.inl rfl))
   have c1 := cell_gb HCV.out.c1 (gb_trans HGW.out hw (.inl rfl))
   have c2 := cell_gb HCV.out.c2 (gb_trans HGW.out hw (.inl rfl))
   have c3 := cell_gb HCV.out.c3 (gb_trans HGW.out hw (.inl rfl))
   clear hl
   go_simp
  refine wpFacts_step (fun vq _ => vq = .bool false) rfl (Lit.up _) ?_ ?_
  ·intro a wq hw hl
   have e8 : a.tmps[8]?.getD undef = .agg #[.int .i64 v.t, .slice nA v.n.length nc, .slice sA v.s.length sc, .slice lA v.l.length lc] := hl 8 (by first | (simp [Op.operands]; done) | simp [Op.operands, Call.operands]) (by rw [HS.out]; decide)
   clear hl
   go_simp
   exact gUpon_lit (HFLT.out _)
  refine wpFacts_lit (.bool true) rfl ?_ ?_
  ·intro a wq hw hl
   have e9 : a.tmps[9]?.getD undef = .bool false := hl 9 (by first | (simp [Op.operands]; done) | simp [Op.operands, Call.operands]) (by rw [HS.out]; decide)
   clear hl
   go_simp
  refine wpFacts_lit (.bool true) rfl ?_ ?_
  ·intro a wq hw hl
   have e10 : a.tmps[10]?.getD undef = .bool true := hl 10 (by first | (simp [Op.operands]; done) | simp [Op.operands, Call.operands]) (by rw [HS.out]; decide)
   clear hl
   go_simp
  refine wpFacts_skip 3 false 11 rfl (by rw [HO.out]; rfl) (by rw [HS.out]; decide) (fun _ _ h => h) ?_
  refine wpFacts_skip 3 false 11 rfl (by rw [HO.out]; rfl) (by rw [HS.out]; decide) (fun _ _ h => h) ?_
  refine wpFacts_skip 3 false 11 rfl (by rw [HO.out]; rfl) (by rw [HS.out]; decide) (fun _ _ h => h) ?_
  refine wpFacts_lit (.bool true) rfl ?_ ?_
  ·intro a wq hw hl
   have e11 : a.tmps[11]?.getD undef = .bool true := hl 11 (by first | (simp [Op.operands]; done) | simp [Op.operands, Call.operands]) (by rw [HS.out]; decide)
   have e14 : a.tmps[14]?.getD undef = undef := hl 14 (by first | (simp [Op.operands]; done) | simp [Op.operands, Call.operands]) (by rw [HS.out]; decide)
   clear hl
   go_simp
  refine wpFacts_lit (.bool true) rfl ?_ ?_
  ·intro a wq hw hl
   have e15 : a.tmps[15]?.getD undef = .bool true := hl 15 (by first | (simp [Op.operands]; done) | simp [Op.operands, Call.operands]) (by rw [HS.out]; decide)
   clear hl
   go_simp
  refine wpFacts_skip 8 false 16 rfl (by rw [HO.out]; rfl) (by rw [HS.out]; decide) (fun _ _ h => h) ?_
  refine wpFacts_skip 8 false 16 rfl (by rw [HO.out]; rfl) (by rw [HS.out]; decide) (fun _ _ h => h) ?_
  refine wpFacts_skip 8 false 16 rfl (by rw [HO.out]; rfl) (by rw [HS.out]; decide) (fun _ _ h => h) ?_
  refine wpFacts_skip 8 false 16 rfl (by rw [HO.out]; rfl) (by rw [HS.out]; decide) (fun _ _ h => h) ?_
  refine wpFacts_skip 8 false 16 rfl (by rw [HO.out]; rfl) (by rw [HS.out]; decide) (fun _ _ h => h) ?_
  refine wpFacts_skip 8 false 16 rfl (by rw [HO.out]; rfl) (by rw [HS.out]; decide) (fun _ _ h => h) ?_
  refine HL.out _ (fun a' w5 hc => ?_)
  have e16 : a'.eval (.tmp 16) = .bool true := hc.fact 16 (by rw [HS.out]; decide)
  have e22 : a'.eval (.tmp 22) = undef := hc.fact 22 (by rw [HS.out]; decide)
  have hg5 := gb_trans HGW.out hc.grown (.inl rfl)
  have hfr := hc.frame [8, 9, 10, 11, 12, 13, 14, 15, 16, 17, 18, 19, 20, 21, 22, 23] (by rw [HO.out]; kernel_rfl)
  rw [hfr]
  clear hfr hc
  rw [HA.out]
  clear HA HO HL HW HS HGW A2 A3
  clear A O W L
  simp only [List.drop_succ_cons, List.drop_zero, List.foldl_cons, List.foldl_nil, Act.put, List.setIfInBounds_toArray, List.set_cons_succ, List.set_cons_zero]
  rw [e16, e22]
  generalize a'.eval (.tmp 8) = v8
  generalize a'.eval (.tmp 9) = v9
  generalize a'.eval (.tmp 10) = v10
  generalize a'.eval (.tmp 11) = v11
  generalize a'.eval (.tmp 12) = v12
  generalize a'.eval (.tmp 13) = v13
  generalize a'.eval (.tmp 14) = v14
  generalize a'.eval (.tmp 15) = v15
  generalize a'.eval (.tmp 17) = v17
  generalize a'.eval (.tmp 18) = v18
  generalize a'.eval (.tmp 19) = v19
  generalize a'.eval (.tmp 20) = v20
  generalize a'.eval (.tmp 21) = v21
  generalize a'.eval (.tmp 23) = v23
  clear e16 e22
  clear a'
  have HG5 := hide hg5
  clear hg5
  have hrr := blk_keep HBZ.out HG5.out (by simp)
  have HRR := hide hrr
  obtain ⟨z0, z1, z2, z3, y0, y1, y2, y3⟩ := zz4 hrr
  clear hrr
  go_wp2_with fail
  obtain ⟨m0, m1, m2, m3⟩ := C4.put HRR.out (.int .i64 0) (.slice none 0 0) (.slice none 0 0) (.slice none 0 0)
  simp only [put4, Nat.zero_add] at m0 m1 m2 m3
  refine bodyPost_ret (v := .tuple #[.agg #[.int .i64 0, .slice none 0 0, .slice none 0 0, .slice none 0 0], .int .i64 31]) (by simp [results, Tryz.results19, go_sem, m0, m1, m2, m3]) rfl ⟨rfl, ?_⟩
  exact put4_to (gb_trans HG.out HG5.out (.inl rfl)) (by omega)
 ·rw [hf] at hfl
  have HFLT := hide hfl
  cases ha : rAtom x.t
  ·rw [ha] at hat
   have HAT := hide hat
   clear hn by_ bx bz hwa hat hfl hf ha hxw
   go_enter Tryz.func19, Tryz.ntmps19
   go_upto_region 1 with fail
   rw [← HWE.out]
   have HCV := hide (show C4 wa (w.heap.size + 1) 0 _ _ _ _ from ⟨c0, c1, c2, c3⟩)
   have HCX := hide (show C4 wa w.heap.size 0 _ _ _ _ from ⟨e0, e1, e2, e3⟩)
   clear c0 c1 c2 c3 e0 e1 e2 e3
   refine wp_region_facts' 15 (by kernel_rfl) (by kernel_rfl) ?_
   intro A O W L HA HO HW HL
   simp only [List.take_succ_cons, List.take_zero]
   have HS := hide (show A.tmps.size = 57 by rw [HA.out]; rfl)
   have HGW := hide (show wa.grownBy W none by rw [HW.out]; exact gb_drew (gb_refl wa none))
   have A2 := hide (show A.eval (.tmp 2) = .pointer (some ⟨w.heap.size, 0, none⟩) by rw [HA.out]; rfl)
   have A3 := hide (show A.eval (.tmp 3) = .pointer (some ⟨w.heap.size + 1, 0, none⟩) by rw [HA.out]; rfl)
   refine wpFacts_lit (.agg #[.int .i64 v.t, .slice nA v.n.length nc, .slice sA v.s.length sc, .slice lA v.l.length lc]) rfl ?_ ?_
   ·intro a wq hw hl
    have e3 : a.tmps[3]?.getD undef = .pointer (some ⟨w.heap.size + 1, 0, none⟩) := (hl 3 (by first | (simp [Op.operands]; done) | simp [Op.operands, Call.operands]) (by rw [HS.out]; decide)).trans A3.out
    have c0 := cell_gb HCV.out.c0 (gb_trans HGW.out hw (.inl rfl))
    have c1 := cell_gb HCV.out.c1 (gb_trans HGW.out hw (.inl rfl))
    have c2 := cell_gb HCV.out.c2 (gb_trans HGW.out hw (.inl rfl))
    have c3 := cell_gb HCV.out.c3 (gb_trans HGW.out hw (.inl rfl))
    clear hl
    go_simp
   refine wpFacts_step (fun vq _ => vq = .bool true) rfl (Lit.up _) ?_ ?_
   ·intro a wq hw hl
    have e8 : a.tmps[8]?.getD undef = .agg #[.int .i64 v.t, .slice nA v.n.length nc, .slice sA v.s.length sc, .slice lA v.l.length lc] := hl 8 (by first | (simp [Op.operands]; done) | simp [Op.operands, Call.operands]) (by rw [HS.out]; decide)
    clear hl
    go_simp
    exact gUpon_lit (HFLT.out _)
   refine wpFacts_lit (.bool false) rfl ?_ ?_
   ·intro a wq hw hl
    have e9 : a.tmps[9]?.getD undef = .bool true := hl 9 (by first | (simp [Op.operands]; done) | simp [Op.operands, Call.operands]) (by rw [HS.out]; decide)
    clear hl
    go_simp
   refine wpFacts_lit (.bool false) rfl ?_ ?_
   ·intro a wq hw hl
    have e10 : a.tmps[10]?.getD undef = .bool false := hl 10 (by first | (simp [Op.operands]; done) | simp [Op.operands, Call.operands]) (by rw [HS.out]; decide)
    clear hl
    go_simp
   refine wpFacts_litG (.agg #[.int .i64 x.t, .slice xnA x.n.length xnc, .slice xsA x.s.length xsc, .slice xlA x.l.length xlc]) 3 false 11 rfl (by rw [HO.out]; rfl) (by rw [HS.out]; decide) (fun _ _ h => h) ?_ ?_
   ·intro a wq hw hl
    have e2 : a.tmps[2]?.getD undef = .pointer (some ⟨w.heap.size, 0, none⟩) := (hl 2 (by first | (simp [Op.operands]; done) | simp [Op.operands, Call.operands]) (by rw [HS.out]; decide)).trans A2.out
    have d0 := cell_gb HCX.out.c0 (gb_trans HGW.out hw (.inl rfl))
    have d1 := cell_gb HCX.out.c1 (gb_trans HGW.out hw (.inl rfl))
    have d2 := cell_gb HCX.out.c2 (gb_trans HGW.out hw (.inl rfl))
    have d3 := cell_gb HCX.out.c3 (gb_trans HGW.out hw (.inl rfl))
    clear hl
    go_simp
   refine wpFacts_stepG (fun vq _ => vq = .bool false) 3 false 11 rfl (by rw [HO.out]; rfl) (by rw [HS.out]; decide) (fun _ _ h => h) (Lit.up _) ?_ ?_
   ·intro a wq hw hl
    have e12 : a.tmps[12]?.getD undef = .agg #[.int .i64 x.t, .slice xnA x.n.length xnc, .slice xsA x.s.length xsc, .slice xlA x.l.length xlc] := hl 12 (by first | (simp [Op.operands]; done) | simp [Op.operands, Call.operands]) (by rw [HS.out]; decide)
    clear hl
    go_simp
    exact gUpon_lit (HAT.out _)
   refine wpFacts_litG (.bool true) 3 false 11 rfl (by rw [HO.out]; rfl) (by rw [HS.out]; decide) (fun _ _ h => h) ?_ ?_
   ·intro a wq hw hl
    have e13 : a.tmps[13]?.getD undef = .bool false := hl 13 (by first | (simp [Op.operands]; done) | simp [Op.operands, Call.operands]) (by rw [HS.out]; decide)
    clear hl
    go_simp
   refine wpFacts_lit (.bool true) rfl ?_ ?_
   ·intro a wq hw hl
    have e11 : a.tmps[11]?.getD undef = .bool false := hl 11 (by first | (simp [Op.operands]; done) | simp [Op.operands, Call.operands]) (by rw [HS.out]; decide)
    have e14 : a.tmps[14]?.getD undef = .bool true := hl 14 (by first | (simp [Op.operands]; done) | simp [Op.operands, Call.operands]) (by rw [HS.out]; decide)
    clear hl
    go_simp
   refine wpFacts_lit (.bool true) rfl ?_ ?_
   ·intro a wq hw hl
    have e15 : a.tmps[15]?.getD undef = .bool true := hl 15 (by first | (simp [Op.operands]; done) | simp [Op.operands, Call.operands]) (by rw [HS.out]; decide)
    clear hl
    go_simp
   refine wpFacts_skip 8 false 16 rfl (by rw [HO.out]; rfl) (by rw [HS.out]; decide) (fun _ _ h => h) ?_
   refine wpFacts_skip 8 false 16 rfl (by rw [HO.out]; rfl) (by rw [HS.out]; decide) (fun _ _ h => h) ?_
   refine wpFacts_skip 8 false 16 rfl (by rw [HO.out]; rfl) (by rw [HS.out]; decide) (fun _ _ h => h) ?_
   refine wpFacts_skip 8 false 16 rfl (by rw [HO.out]; rfl) (by rw [HS.out]; decide) (fun _ _ h => h) ?_
   refine wpFacts_skip 8 false 16 rfl (by rw [HO.out]; rfl) (by rw [HS.out]; decide) (fun _ _ h => h) ?_
   refine wpFacts_skip 8 false 16 rfl (by rw [HO.out]; rfl) (by rw [HS.out]; decide) (fun _ _ h => h) ?_
   refine HL.out _ (fun a' w5 hc => ?_)
   have e16 : a'.eval (.tmp 16) = .bool true := hc.fact 16 (by rw [HS.out]; decide)
   have e22 : a'.eval (.tmp 22) = undef := hc.fact 22 (by rw [HS.out]; decide)
   have hg5 := gb_trans HGW.out hc.grown (.inl rfl)
   have hfr := hc.frame [8, 9, 10, 11, 12, 13, 14, 15, 16, 17, 18, 19, 20, 21, 22, 23] (by rw [HO.out]; kernel_rfl)
   rw [hfr]
   clear hfr hc
   rw [HA.out]
   clear HA HO HL HW HS HGW A2 A3
   clear A O W L
   simp only [List.drop_succ_cons, List.drop_zero, List.foldl_cons, List.foldl_nil, Act.put, List.setIfInBounds_toArray, List.set_cons_succ, List.set_cons_zero]
   rw [e16, e22]
   generalize a'.eval (.tmp 8) = v8
   generalize a'.eval (.tmp 9) = v9
   generalize a'.eval (.tmp 10) = v10
   generalize a'.eval (.tmp 11) = v11
   generalize a'.eval (.tmp 12) = v12
   generalize a'.eval (.tmp 13) = v13
   generalize a'.eval (.tmp 14) = v14
   generalize a'.eval (.tmp 15) = v15
   generalize a'.eval (.tmp 17) = v17
   generalize a'.eval (.tmp 18) = v18
   generalize a'.eval (.tmp 19) = v19
   generalize a'.eval (.tmp 20) = v20
   generalize a'.eval (.tmp 21) = v21
   generalize a'.eval (.tmp 23) = v23
   clear e16 e22
   clear a'
   have HG5 := hide hg5
   clear hg5
   have hrr := blk_keep HBZ.out HG5.out (by simp)
   have HRR := hide hrr
   obtain ⟨z0, z1, z2, z3, y0, y1, y2, y3⟩ := zz4 hrr
   clear hrr
   go_wp2_with fail
   obtain ⟨m0, m1, m2, m3⟩ := C4.put HRR.out (.int .i64 0) (.slice none 0 0) (.slice none 0 0) (.slice none 0 0)
   simp only [put4, Nat.zero_add] at m0 m1 m2 m3
   refine bodyPost_ret (v := .tuple #[.agg #[.int .i64 0, .slice none 0 0, .slice none 0 0, .slice none 0 0], .int .i64 31]) (by simp [results, Tryz.results19, go_sem, m0, m1, m2, m3]) rfl ⟨rfl, ?_⟩
   exact put4_to (gb_trans HG.out HG5.out (.inl rfl)) (by omega)
  ·rw [ha] at hat
   have HAT := hide hat
   have hk : -x.t ≠ kv := by
    rcases hn with h | h | h
    ·rw [hf] at h; cases h
    ·rw [ha] at h; cases h
    ·exact h
   have q3 : (-x.t != kv) = true := bne_iff_ne.2 hk
   clear hn by_ bx bz hwa hat hfl hf ha hk hxw
   go_enter Tryz.func19, Tryz.ntmps19
   go_upto_region 1 with fail
   rw [← HWE.out]
   have HCV := hide (show C4 wa (w.heap.size + 1) 0 _ _ _ _ from ⟨c0, c1, c2, c3⟩)
   have HCX := hide (show C4 wa w.heap.size 0 _ _ _ _ from ⟨e0, e1, e2, e3⟩)
   clear c0 c1 c2 c3 e0 e1 e2 e3
   refine wp_region_facts' 15 (by kernel_rfl) (by kernel_rfl) ?_
   intro A O W L HA HO HW HL
   simp only [List.take_succ_cons, List.take_zero]
   have HS := hide (show A.tmps.size = 57 by rw [HA.out]; rfl)
   have HGW := hide (show wa.grownBy W none by rw [HW.out]; exact gb_drew (gb_refl wa none))
   have A2 := hide (show A.eval (.tmp 2) = .pointer (some ⟨w.heap.size, 0, none⟩) by rw [HA.out]; rfl)
   have A3 := hide (show A.eval (.tmp 3) = .pointer (some ⟨w.heap.size + 1, 0, none⟩) by rw [HA.out]; rfl)
   refine wpFacts_lit (.agg #[.int .i64 v.t, .slice nA v.n.length nc, .slice sA v.s.length sc, .slice lA v.l.length lc]) rfl ?_ ?_
   ·intro a wq hw hl
    have e3 : a.tmps[3]?.getD undef = .pointer (some ⟨w.heap.size + 1, 0, none⟩) := (hl 3 (by first | (simp [Op.operands]; done) | simp [Op.operands, Call.operands]) (by rw [HS.out]; decide)).trans A3.out
    have c0 := cell_gb HCV.out.c0 (gb_trans HGW.out hw (.inl rfl))
    have c1 := cell_gb HCV.out.c1 (gb_trans HGW.out hw (.inl rfl))
    have c2 := cell_gb HCV.out.c2 (gb_trans HGW.out hw (.inl rfl))
    have c3 := cell_gb HCV.out.c3 (gb_trans HGW.out hw (.inl rfl))
    clear hl
    go_simp
   refine wpFacts_step (fun vq _ => vq = .bool true) rfl (Lit.up _) ?_ ?_
   ·intro a wq hw hl
    have e8 : a.tmps[8]?.getD undef = .agg #[.int .i64 v.t, .slice nA v.n.length nc, .slice sA v.s.length sc, .slice lA v.l.length lc] := hl 8 (by first | (simp [Op.operands]; done) | simp [Op.operands, Call.operands]) (by rw [HS.out]; decide)
    clear hl
    go_simp
    exact gUpon_lit (HFLT.out _)
   refine wpFacts_lit (.bool false) rfl ?_ ?_
   ·intro a wq hw hl
    have e9 : a.tmps[9]?.getD undef = .bool true := hl 9 (by first | (simp [Op.operands]; done) | simp [Op.operands, Call.operands]) (by rw [HS.out]; decide)
    clear hl
    go_simp
   refine wpFacts_lit (.bool false) rfl ?_ ?_
   ·intro a wq hw hl
    have e10 : a.tmps[10]?.getD undef = .bool false := hl 10 (by first | (simp [Op.operands]; done) | simp [Op.operands, Call.operands]) (by rw [HS.out]; decide)
    clear hl
    go_simp
   refine wpFacts_litG (.agg #[.int .i64 x.t, .slice xnA x.n.length xnc, .slice xsA x.s.length xsc, .slice xlA x.l.length xlc]) 3 false 11 rfl (by rw [HO.out]; rfl) (by rw [HS.out]; decide) (fun _ _ h => h) ?_ ?_
   ·intro a wq hw hl
    have e2 : a.tmps[2]?.getD undef = .pointer (some ⟨w.heap.size, 0, none⟩) := (hl 2 (by first | (simp [Op.operands]; done) | simp [Op.operands, Call.operands]) (by rw [HS.out]; decide)).trans A2.out
    have d0 := cell_gb HCX.out.c0 (gb_trans HGW.out hw (.inl rfl))
    have d1 := cell_gb HCX.out.c1 (gb_trans HGW.out hw (.inl rfl))
    have d2 := cell_gb HCX.out.c2 (gb_trans HGW.out hw (.inl rfl))
    have d3 := cell_gb HCX.out.c3 (gb_trans HGW.out hw (.inl rfl))
    clear hl
    go_simp
   refine wpFacts_stepG (fun vq _ => vq = .bool true) 3 false 11 rfl (by rw [HO.out]; rfl) (by rw [HS.out]; decide) (fun _ _ h => h) (Lit.up _) ?_ ?_
   ·intro a wq hw hl
    have e12 : a.tmps[12]?.getD undef = .agg #[.int .i64 x.t, .slice xnA x.n.length xnc, .slice xsA x.s.length xsc, .slice xlA x.l.length xlc] := hl 12 (by first | (simp [Op.operands]; done) | simp [Op.operands, Call.operands]) (by rw [HS.out]; decide)
    clear hl
    go_simp
    exact gUpon_lit (HAT.out _)
   refine wpFacts_litG (.bool false) 3 false 11 rfl (by rw [HO.out]; rfl) (by rw [HS.out]; decide) (fun _ _ h => h) ?_ ?_
   ·intro a wq hw hl
    have e13 : a.tmps[13]?.getD undef = .bool true := hl 13 (by first | (simp [Op.operands]; done) | simp [Op.operands, Call.operands]) (by rw [HS.out]; decide)
    clear hl
    go_simp
   refine wpFacts_lit (.bool false) rfl ?_ ?_
   ·intro a wq hw hl
    have e11 : a.tmps[11]?.getD undef = .bool false := hl 11 (by first | (simp [Op.operands]; done) | simp [Op.operands, Call.operands]) (by rw [HS.out]; decide)
    have e14 : a.tmps[14]?.getD undef = .bool false := hl 14 (by first | (simp [Op.operands]; done) | simp [Op.operands, Call.operands]) (by rw [HS.out]; decide)
    clear hl
    go_simp
   refine wpFacts_lit (.bool false) rfl ?_ ?_
   ·intro a wq hw hl
    have e15 : a.tmps[15]?.getD undef = .bool false := hl 15 (by first | (simp [Op.operands]; done) | simp [Op.operands, Call.operands]) (by rw [HS.out]; decide)
    clear hl
    go_simp
   refine wpFacts_litG (.pointer (some ⟨w.heap.size, 0, none⟩)) 8 false 16 rfl (by rw [HO.out]; rfl) (by rw [HS.out]; decide) (fun _ _ h => h) ?_ ?_
   ·intro a wq hw hl
    have e2 : a.tmps[2]?.getD undef = .pointer (some ⟨w.heap.size, 0, none⟩) := (hl 2 (by first | (simp [Op.operands]; done) | simp [Op.operands, Call.operands]) (by rw [HS.out]; decide)).trans A2.out
    clear hl
    go_simp
   refine wpFacts_litG (.int .i64 x.t) 8 false 16 rfl (by rw [HO.out]; rfl) (by rw [HS.out]; decide) (fun _ _ h => h) ?_ ?_
   ·intro a wq hw hl
    have e17 : a.tmps[17]?.getD undef = .pointer (some ⟨w.heap.size, 0, none⟩) := hl 17 (by first | (simp [Op.operands]; done) | simp [Op.operands, Call.operands]) (by rw [HS.out]; decide)
    have d0 := cell_gb HCX.out.c0 (gb_trans HGW.out hw (.inl rfl))
    have d1 := cell_gb HCX.out.c1 (gb_trans HGW.out hw (.inl rfl))
    have d2 := cell_gb HCX.out.c2 (gb_trans HGW.out hw (.inl rfl))
    have d3 := cell_gb HCX.out.c3 (gb_trans HGW.out hw (.inl rfl))
    clear hl
    go_simp
   refine wpFacts_litG (.int .i64 (-x.t)) 8 false 16 rfl (by rw [HO.out]; rfl) (by rw [HS.out]; decide) (fun _ _ h => h) ?_ ?_
   ·intro a wq hw hl
    have e18 : a.tmps[18]?.getD undef = .int .i64 x.t := hl 18 (by first | (simp [Op.operands]; done) | simp [Op.operands, Call.operands]) (by rw [HS.out]; decide)
    have hxw := HXW.out
    clear hl
    go_simp
   refine wpFacts_litG (.agg #[.int .i64 v.t, .slice nA v.n.length nc, .slice sA v.s.length sc, .slice lA v.l.length lc]) 8 false 16 rfl (by rw [HO.out]; rfl) (by rw [HS.out]; decide) (fun _ _ h => h) ?_ ?_
   ·intro a wq hw hl
    have e3 : a.tmps[3]?.getD undef = .pointer (some ⟨w.heap.size + 1, 0, none⟩) := (hl 3 (by first | (simp [Op.operands]; done) | simp [Op.operands, Call.operands]) (by rw [HS.out]; decide)).trans A3.out
    have c0 := cell_gb HCV.out.c0 (gb_trans HGW.out hw (.inl rfl))
    have c1 := cell_gb HCV.out.c1 (gb_trans HGW.out hw (.inl rfl))
    have c2 := cell_gb HCV.out.c2 (gb_trans HGW.out hw (.inl rfl))
    have c3 := cell_gb HCV.out.c3 (gb_trans HGW.out hw (.inl rfl))
    clear hl
    go_simp
   refine wpFacts_stepG (fun vq _ => vq = .int .i64 kv) 8 false 16 rfl (by rw [HO.out]; rfl) (by rw [HS.out]; decide) (fun _ _ h => h) (Lit.up _) ?_ ?_
   ·intro a wq hw hl
    have e20 : a.tmps[20]?.getD undef = .agg #[.int .i64 v.t, .slice nA v.n.length nc, .slice sA v.s.length sc, .slice lA v.l.length lc] := hl 20 (by first | (simp [Op.operands]; done) | simp [Op.operands, Call.operands]) (by rw [HS.out]; decide)
    clear hl
    go_simp
    exact gUpon_lit (HKV.out _)
   refine wpFacts_litG (.bool (-x.t != kv)) 8 false 16 rfl (by rw [HO.out]; rfl) (by rw [HS.out]; decide) (fun _ _ h => h) ?_ ?_
   ·intro a wq hw hl
    have e19 : a.tmps[19]?.getD undef = .int .i64 (-x.t) := hl 19 (by first | (simp [Op.operands]; done) | simp [Op.operands, Call.operands]) (by rw [HS.out]; decide)
    have e21 : a.tmps[21]?.getD undef = .int .i64 kv := hl 21 (by first | (simp [Op.operands]; done) | simp [Op.operands, Call.operands]) (by rw [HS.out]; decide)
    clear hl
    go_simp
   refine HL.out _ (fun a' w5 hc => ?_)
   have e16 : a'.eval (.tmp 16) = .bool false := hc.fact 16 (by rw [HS.out]; decide)
   have e22 : a'.eval (.tmp 22) = .bool (-x.t != kv) := hc.fact 22 (by rw [HS.out]; decide)
   have hg5 := gb_trans HGW.out hc.grown (.inl rfl)
   have hfr := hc.frame [8, 9, 10, 11, 12, 13, 14, 15, 16, 17, 18, 19, 20, 21, 22, 23] (by rw [HO.out]; kernel_rfl)
   rw [hfr]
   clear hfr hc
   rw [HA.out]
   clear HA HO HL HW HS HGW A2 A3
   clear A O W L
   simp only [List.drop_succ_cons, List.drop_zero, List.foldl_cons, List.foldl_nil, Act.put, List.setIfInBounds_toArray, List.set_cons_succ, List.set_cons_zero]
   rw [e16, e22]
   generalize a'.eval (.tmp 8) = v8
   generalize a'.eval (.tmp 9) = v9
   generalize a'.eval (.tmp 10) = v10
   generalize a'.eval (.tmp 11) = v11
   generalize a'.eval (.tmp 12) = v12
   generalize a'.eval (.tmp 13) = v13
   generalize a'.eval (.tmp 14) = v14
   generalize a'.eval (.tmp 15) = v15
   generalize a'.eval (.tmp 17) = v17
   generalize a'.eval (.tmp 18) = v18
   generalize a'.eval (.tmp 19) = v19
   generalize a'.eval (.tmp 20) = v20
   generalize a'.eval (.tmp 21) = v21
   generalize a'.eval (.tmp 23) = v23
   clear e16 e22
   clear a'
   have HG5 := hide hg5
   clear hg5
   have hrr := blk_keep HBZ.out HG5.out (by simp)
   have HRR := hide hrr
   obtain ⟨z0, z1, z2, z3, y0, y1, y2, y3⟩ := zz4 hrr
   clear hrr
   go_wp2_with fail
   obtain ⟨m0, m1, m2, m3⟩ := C4.put HRR.out (.int .i64 0) (.slice none 0 0) (.slice none 0 0) (.slice none 0 0)
   simp only [put4, Nat.zero_add] at m0 m1 m2 m3
   refine bodyPost_ret (v := .tuple #[.agg #[.int .i64 0, .slice none 0 0, .slice none 0 0, .slice none 0 0], .int .i64 31]) (by simp [results, Tryz.results19, go_sem, m0, m1, m2, m3]) rfl ⟨rfl, ?_⟩
   exact put4_to (gb_trans HG.out HG5.out (.inl rfl)) (by omega)
end Go.Proofs.YtbmgodmfpoappaaGreat
