/-
  The document's Fill, where it answers.
-/
import Derived.Test.YtbmgodmfpoappaaGreatQUj
import Derived.Test.YtbmgodmfpoappaaGreatQUi
import Derived.Test.YtbmgodmfpoappaaGreatQZr
import Derived.Test.YtbmgodmfpoappaaGreatQKo
namespace Go.Proofs.YtbmgodmfpoappaaGreat
open Go.RowKit
attribute [local go_sem ↓] Go.wp_at_zero Go.wp_at_succ
theorem vow_flat {w : World} {v : Vl} {nA : Option Addr} {nc : Nat} {sA : Option Addr} {sc : Nat} {lA : Option Addr} {lc : Nat} {f : List Nat} (h : VOw w v [.int .i64 v.t, .slice nA v.n.length nc, .slice sA v.s.length sc, .slice lA v.l.length lc] f) (_ : f.Nodup) :
  ∃ fn fs, Own w fn nA (i64s v.n) ∧ Own w fs sA (strs v.s) ∧ v.n.length ≤ nc ∧ v.s.length ≤ sc ∧ v.l.length ≤ lc ∧ (∀ b ∈ fn, b ∈ f) ∧ (∀ b ∈ fs, b ∈ f) ∧ fn.Nodup ∧ fs.Nodup := by
 obtain ⟨nA', nc', sA', sc', lA', lc', xs, fn, fs, fl, fp, hcs, ⟨h1, h2, h3⟩, ⟨o1, o2, o3⟩, _, hfe⟩ := h.parts
 simp only [List.cons.injEq, Value.slice.injEq, and_true, true_and] at hcs
 obtain ⟨⟨rfl, rfl⟩, ⟨rfl, rfl⟩, rfl, rfl⟩ := hcs
 exact ⟨fn, fs, o1, o2, h1, h2, h3, fun b hb => by rw [hfe]; simp [hb], fun b hb => by rw [hfe]; simp [hb], o1.nd, o2.nd⟩
theorem vow_back_num {w : World} {t : Int} {l : List Int} {nA : Option Addr} {nc : Nat} {sA : Option Addr} {sc : Nat} {lA : Option Addr} {lc : Nat} {f : List Nat} (hlc : l.length ≤ nc) (h : Own w f nA (i64s l)) :
  VOw w (.mk t l [] []) [.int .i64 t, .slice nA l.length nc, .slice sA 0 sc, .slice lA 0 lc] f :=
 ⟨nA, nc, sA, sc, lA, lc, [], f, [], [], [], rfl, ⟨hlc, Nat.zero_le _, Nat.zero_le _⟩, ⟨h, .inl ⟨rfl, rfl⟩, .inl ⟨rfl, rfl⟩⟩, ⟨rfl, rfl⟩, by simp⟩
theorem vow_back_sym {w : World} {t : Int} {l : List ByteArray} {nA : Option Addr} {nc : Nat} {sA : Option Addr} {sc : Nat} {lA : Option Addr} {lc : Nat} {f : List Nat} (hlc : l.length ≤ sc) (h : Own w f sA (strs l)) :
  VOw w (.mk t [] l []) [.int .i64 t, .slice nA 0 nc, .slice sA l.length sc, .slice lA 0 lc] f :=
 ⟨nA, nc, sA, sc, lA, lc, [], [], f, [], [], rfl, ⟨Nat.zero_le _, hlc, Nat.zero_le _⟩, ⟨.inl ⟨rfl, rfl⟩, h, .inl ⟨rfl, rfl⟩⟩, ⟨rfl, rfl⟩, by simp⟩
set_option maxHeartbeats 8000000 in
set_option maxRecDepth 100000 in
theorem rFill_num (x : Vl) (xnA : Option Addr) (xnc : Nat) (xsA : Option Addr) (xsc : Nat) (xlA : Option Addr) (xlc : Nat) (v : Vl) (w : World) (B : Nat) (nA : Option Addr) (nc : Nat) (sA : Option Addr) (sc : Nat) (lA : Option Addr) (lc : Nat) (q : Int) (hq : x.n = [q]) (hlow : -1000 ≤ v.t) (hlx : -1000 ≤ x.t ∧ x.t ≤ 1000) (hf : rFlat v.t = true) (ha : rAtom x.t = true) (hkk : -x.t = rkd v.t) (hb1 : rAbs v.t = 1 → ∀ y ∈ v.n, y ≠ -9223372036854775808) (h3 : rAbs v.t ≠ 3) (hk3 : rkd v.t ≠ 3) (hc : v.count = v.n.length) (hs0 : v.s = []) (hl0 : v.l = []) (ht : v.tot ≤ 1200000000) (hB : B ≤ w.heap.size) (h : VB w B v nA nc sA sc lA lc) (hx : VB w B x xnA xnc xsA xsc xlA xlc) :
  Calls Tryz.prog 19 #[.agg #[.int .i64 x.t, .slice xnA x.n.length xnc, .slice xsA x.s.length xsc, .slice xlA x.l.length xlc], .agg #[.int .i64 v.t, .slice nA v.n.length nc, .slice sA v.s.length sc, .slice lA v.l.length lc]] w (NewE (.mk v.t (v.n.map (filI q)) [] []) w) := by
 obtain ⟨l1, l2, l3, l4⟩ := Vl.lens v ht
 have hxl : x.n.length = 1 := by rw [hq]; rfl
 rw [hxl]
 obtain ⟨wa, hwa⟩ : ∃ wa, wa = ((w.alloc (.cells #[.int .i64 x.t, .slice xnA 1 xnc, .slice xsA x.s.length xsc, .slice xlA x.l.length xlc] 26)).alloc (.cells #[.int .i64 v.t, .slice nA v.n.length nc, .slice sA v.s.length sc, .slice lA v.l.length lc] 26)).alloc (.cells #[.int .i64 0, .slice none 0 0, .slice none 0 0, .slice none 0 0] 26) := ⟨_, rfl⟩
 have by_ : wa.heap[w.heap.size]? = some (.cells #[.int .i64 x.t, .slice xnA 1 xnc, .slice xsA x.s.length xsc, .slice xlA x.l.length xlc] 26 (0, 0)) := by rw [hwa]; exact (Below.heap_alloc _ _ _ (by rw [World.size_alloc, World.size_alloc]; omega)).trans ((Below.heap_alloc _ _ _ (by rw [World.size_alloc]; omega)).trans (heap_alloc_new w _))
 have bx : wa.heap[w.heap.size + 1]? = some (.cells #[.int .i64 v.t, .slice nA v.n.length nc, .slice sA v.s.length sc, .slice lA v.l.length lc] 26 (0, 0)) := by rw [hwa]; refine (Below.heap_alloc _ _ _ (by rw [World.size_alloc, World.size_alloc]; omega)).trans ?_; have := heap_alloc_new (w.alloc (.cells #[.int .i64 x.t, .slice xnA 1 xnc, .slice xsA x.s.length xsc, .slice xlA x.l.length xlc] 26)) (.cells #[.int .i64 v.t, .slice nA v.n.length nc, .slice sA v.s.length sc, .slice lA v.l.length lc] 26); rwa [World.size_alloc] at this
 have bz : wa.heap[w.heap.size + 1 + 1]? = some (.cells #[.int .i64 0, .slice none 0 0, .slice none 0 0, .slice none 0 0] 26 (0, 0)) := by rw [hwa]; have := heap_alloc_new ((w.alloc (.cells #[.int .i64 x.t, .slice xnA 1 xnc, .slice xsA x.s.length xsc, .slice xlA x.l.length xlc] 26)).alloc (.cells #[.int .i64 v.t, .slice nA v.n.length nc, .slice sA v.s.length sc, .slice lA v.l.length lc] 26)) (.cells #[.int .i64 0, .slice none 0 0, .slice none 0 0, .slice none 0 0] 26); rwa [World.size_alloc, World.size_alloc] at this
 have HBY := hide by_
 have HBX := hide bx
 have HBZ := hide bz
 have HSZ := hide (show wa.heap.size = w.heap.size + 3 by rw [hwa]; simp)
 have HG := hide (show w.grownBy wa none by rw [hwa]; exact gb_alloc (gb_alloc (gb_alloc (gb_refl w none) _) _) _)
 have HWE := hide hwa
 obtain ⟨c0, c1, c2, c3⟩ := c4k (blk_keep HBX.out (gb_refl wa none) (by simp))
 obtain ⟨e0, e1, e2, e3⟩ := c4k (blk_keep HBY.out (gb_refl wa none) (by simp))
 have hfl := fun w2 => rFlat_any v.t (.slice nA v.n.length nc) (.slice sA v.s.length sc) (.slice lA v.l.length lc) w2
 have HKV := hide (fun w2 => rKind_any v.t hlow (.slice nA v.n.length nc) (.slice sA v.s.length sc) (.slice lA v.l.length lc) w2)
 have hat := fun w2 => rAtom_any x.t (.slice xnA 1 xnc) (.slice xsA x.s.length xsc) (.slice xlA x.l.length xlc) w2
 have hxw : IntKind.i64.wrap (-x.t) = -x.t := by rw [IntKind.wrap_i64]; omega
 rw [hf] at hfl
 have HFLT := hide hfl
 rw [ha] at hat
 have HAT := hide hat
 have HXW := hide hxw
 have hfc : FlatC v := by unfold FlatC; rw [if_neg h3]; exact hc
 have HCN := hide (fun w2 (hg : w.grownBy w2 none) => rCount_any v w2 B nA nc sA sc lA lc ht (Nat.le_trans hB hg.size) (h.gb hg hB))
 have HNU := hide (fun w2 (i : Nat) (hg : w.grownBy w2 none) => rNull_any v (i : Int) w2 B nA nc sA sc lA lc (fun _ => hfc) ht (Nat.le_trans hB hg.size) (h.gb hg hB))
 have HCLN := hide (fun w2 (hg : w.grownBy w2 none) => rClone_d v.depth v w2 B nA nc sA sc lA lc (Nat.le_refl _) ht (Nat.le_trans hB hg.size) (h.gb hg hB))
 rw [hc] at HCN
 have HNR : Hid (∀ (j : Nat) (hj : j < v.n.length), nullR v (j : Int) = (v.n[j] == -9223372036854775808)) := hide (fun j hj => by
  unfold nullR
  rw [if_neg (by intro h9; unfold rFlat at hf; rw [h9.1, h9.2] at hf; cases hf), if_neg (by rw [hc]; omega), if_neg h3]
  by_cases h1 : rAbs v.t = 1
  ·rw [if_pos h1]; exact (beq_eq_false_iff_ne.2 (hb1 h1 _ (List.getElem_mem hj))).symm
  ·rw [if_neg h1]; show (v.n.getD j 0 == _) = _; rw [List.getD_eq_getElem?_getD, List.getElem?_eq_getElem hj]; rfl)
 have hxr := (hx.gb HG.out hB).n
 rw [hq] at hxr
 obtain ⟨eb, eo, hea, _, hec⟩ := hxr.lay (by simp [i64s])
 have HEL := hide (show wa.cell? ⟨eb, eo, none⟩ = some (.int .i64 q) from hec 0 _ rfl)
 subst hea
 have q3 : (-x.t != rkd v.t) = false := by rw [hkk]; simp
 have q8 : (rkd v.t == 3) = false := int_beq_f hk3
 generalize rkd v.t = kv at *
 have HL := hide l1
 have HOTH := hide (show v.s = [] ∧ v.l = [] from ⟨hs0, hl0⟩)
 clear by_ bx bz hwa hat hfl hf ha hkk hk3 h3 hc hb1 hs0 hl0 ht hB h hx hxw hfc hxr hec hq hxl hlow hlx l1 l2 l3 l4
 go_enter Tryz.func19, Tryz.ntmps19
 go_upto_region 1 with fail
 rw [← HWE.out]
 have HCV := hide (show C4 wa (w.heap.size + 1) 0 _ _ _ _ from ⟨c0, c1, c2, c3⟩)
 have HCX := hide (show C4 wa w.heap.size 0 _ _ _ _ from ⟨e0, e1, e2, e3⟩)
 clear c0 c1 c2 c3 e0 e1 e2 e3
 refine wp_region_facts' 15 (by kernel_rfl) (by kernel_rfl) ?_
 intro A O W L HA HO HW HL
 simp only [List.take_succ_cons, List.take_zero]
 have HS := hide (show A.tmps.size = 57 by rw [HA.out]; rfl)
 have HGW := hide (show wa.grownBy W none by rw [HW.out]; exact gb_drew (gb_refl wa none))
 have A2 := hide (show A.eval (.tmp 2) = .pointer (some ⟨w.heap.size, 0, none⟩) by rw [HA.out]; rfl)
 have A3 := hide (show A.eval (.tmp 3) = .pointer (some ⟨w.heap.size + 1, 0, none⟩) by rw [HA.out]; rfl)
 refine wpFacts_lit (.agg #[.int .i64 v.t, .slice nA v.n.length nc, .slice sA v.s.length sc, .slice lA v.l.length lc]) rfl ?_ ?_
 ·intro a wq hw hl
  have e3 : a.tmps[3]?.getD undef = .pointer (some ⟨w.heap.size + 1, 0, none⟩) := (hl 3 (by first | (simp [Op.operands]; done) | simp [Op.operands, Call.operands]) (by rw [HS.out]; decide)).trans A3.out
  have c0 := cell_gb HCV.out.c0 (gb_trans HGW.out hw (.inl rfl))
  have c1 := cell_gb HCV.out.c1 (gb_trans HGW.out hw (.inl rfl))
  have c2 := cell_gb HCV.out.c2 (gb_trans HGW.out hw (.inl rfl))
  have c3 := cell_gb HCV.out.c3 (gb_trans HGW.out hw (.inl rfl))
  clear hl
  go_simp
 refine wpFacts_step (fun vq _ => vq = .bool true) rfl (Lit.up _) ?_ ?_
 ·intro a wq hw hl
  have e8 : a.tmps[8]?.getD undef = .agg #[.int .i64 v.t, .slice nA v.n.length nc, .slice sA v.s.length sc, .slice lA v.l.length lc] := hl 8 (by first | (simp [Op.operands]; done) | simp [Op.operands, Call.operands]) (by rw [HS.out]; decide)
  clear hl
  go_simp
  exact gUpon_lit (HFLT.out _)
 refine wpFacts_lit (.bool false) rfl ?_ ?_
 ·intro a wq hw hl
  have e9 : a.tmps[9]?.getD undef = .bool true := hl 9 (by first | (simp [Op.operands]; done) | simp [Op.operands, Call.operands]) (by rw [HS.out]; decide)
  clear hl
  go_simp
 refine wpFacts_lit (.bool false) rfl ?_ ?_
 ·intro a wq hw hl
  have e10 : a.tmps[10]?.getD undef = .bool false := hl 10 (by first | (simp [Op.operands]; done) | simp [Op.operands, Call.operands]) (by rw [HS.out]; decide)
  clear hl
  go_simp
 refine wpFacts_litG (.agg #[.int .i64 x.t, .slice (some ⟨eb, eo, none⟩) 1 xnc, .slice xsA x.s.length xsc, .slice xlA x.l.length xlc]) 3 false 11 rfl (by rw [HO.out]; rfl) (by rw [HS.out]; decide) (fun _ _ h => h) ?_ ?_
 ·intro a wq hw hl
  have e2 : a.tmps[2]?.getD undef = .pointer (some ⟨w.heap.size, 0, none⟩) := (hl 2 (by first | (simp [Op.operands]; done) | simp [Op.operands, Call.operands]) (by rw [HS.out]; decide)).trans A2.out
  have d0 := cell_gb HCX.out.c0 (gb_trans HGW.out hw (.inl rfl))
  have d1 := cell_gb HCX.out.c1 (gb_trans HGW.out hw (.inl rfl))
  have d2 := cell_gb HCX.out.c2 (gb_trans HGW.out hw (.inl rfl))
  have d3 := cell_gb HCX.out.c3 (gb_trans HGW.out hw (.inl rfl))
  clear hl
  go_simp
 refine wpFacts_stepG (fun vq _ => vq = .bool true) 3 false 11 rfl (by rw [HO.out]; rfl) (by rw [HS.out]; decide) (fun _ _ h => h) (Lit.up _) ?_ ?_
 ·intro a wq hw hl
  have e12 : a.tmps[12]?.getD undef = .agg #[.int .i64 x.t, .slice (some ⟨eb, eo, none⟩) 1 xnc, .slice xsA x.s.length xsc, .slice xlA x.l.length xlc] := hl 12 (by first | (simp [Op.operands]; done) | simp [Op.operands, Call.operands]) (by rw [HS.out]; decide)
  clear hl
  go_simp
  exact gUpon_lit (HAT.out _)
 refine wpFacts_litG (.bool false) 3 false 11 rfl (by rw [HO.out]; rfl) (by rw [HS.out]; decide) (fun _ _ h => h) ?_ ?_
 ·intro a wq hw hl
  have e13 : a.tmps[13]?.getD undef = .bool true := hl 13 (by first | (simp [Op.operands]; done) | simp [Op.operands, Call.operands]) (by rw [HS.out]; decide)
  clear hl
  go_simp
 refine wpFacts_lit (.bool false) rfl ?_ ?_
 ·intro a wq hw hl
  have e11 : a.tmps[11]?.getD undef = .bool false := hl 11 (by first | (simp [Op.operands]; done) | simp [Op.operands, Call.operands]) (by rw [HS.out]; decide)
  have e14 : a.tmps[14]?.getD undef = .bool false := hl 14 (by first | (simp [Op.operands]; done) | simp [Op.operands, Call.operands]) (by rw [HS.out]; decide)
  clear hl
  go_simp
 refine wpFacts_lit (.bool false) rfl ?_ ?_
 ·intro a wq hw hl
  have e15 : a.tmps[15]?.getD undef = .bool false := hl 15 (by first | (simp [Op.operands]; done) | simp [Op.operands, Call.operands]) (by rw [HS.out]; decide)
  clear hl
  go_simp
 refine wpFacts_litG (.pointer (some ⟨w.heap.size, 0, none⟩)) 8 false 16 rfl (by rw [HO.out]; rfl) (by rw [HS.out]; decide) (fun _ _ h => h) ?_ ?_
 ·intro a wq hw hl
  have e2 : a.tmps[2]?.getD undef = .pointer (some ⟨w.heap.size, 0, none⟩) := (hl 2 (by first | (simp [Op.operands]; done) | simp [Op.operands, Call.operands]) (by rw [HS.out]; decide)).trans A2.out
  clear hl
  go_simp
 refine wpFacts_litG (.int .i64 x.t) 8 false 16 rfl (by rw [HO.out]; rfl) (by rw [HS.out]; decide) (fun _ _ h => h) ?_ ?_
 ·intro a wq hw hl
  have e17 : a.tmps[17]?.getD undef = .pointer (some ⟨w.heap.size, 0, none⟩) := hl 17 (by first | (simp [Op.operands]; done) | simp [Op.operands, Call.operands]) (by rw [HS.out]; decide)
  have d0 := cell_gb HCX.out.c0 (gb_trans HGW.out hw (.inl rfl))
  have d1 := cell_gb HCX.out.c1 (gb_trans HGW.out hw (.inl rfl))
  have d2 := cell_gb HCX.out.c2 (gb_trans HGW.out hw (.inl rfl))
  have d3 := cell_gb HCX.out.c3 (gb_trans HGW.out hw (.inl rfl))
  clear hl
  go_simp
 refine wpFacts_litG (.int .i64 (-x.t)) 8 false 16 rfl (by rw [HO.out]; rfl) (by rw [HS.out]; decide) (fun _ _ h => h) ?_ ?_
 ·intro a wq hw hl
  have e18 : a.tmps[18]?.getD undef = .int .i64 x.t := hl 18 (by first | (simp [Op.operands]; done) | simp [Op.operands, Call.operands]) (by rw [HS.out]; decide)
  have hxw := HXW.out
  clear hl
  go_simp
 refine wpFacts_litG (.agg #[.int .i64 v.t, .slice nA v.n.length nc, .slice sA v.s.length sc, .slice lA v.l.length lc]) 8 false 16 rfl (by rw [HO.out]; rfl) (by rw [HS.out]; decide) (fun _ _ h => h) ?_ ?_
 ·intro a wq hw hl
  have e3 : a.tmps[3]?.getD undef = .pointer (some ⟨w.heap.size + 1, 0, none⟩) := (hl 3 (by first | (simp [Op.operands]; done) | simp [Op.operands, Call.operands]) (by rw [HS.out]; decide)).trans A3.out
  have c0 := cell_gb HCV.out.c0 (gb_trans HGW.out hw (.inl rfl))
  have c1 := cell_gb HCV.out.c1 (gb_trans HGW.out hw (.inl rfl))
  have c2 := cell_gb HCV.out.c2 (gb_trans HGW.out hw (.inl rfl))
  have c3 := cell_gb HCV.out.c3 (gb_trans HGW.out hw (.inl rfl))
  clear hl
  go_simp
 refine wpFacts_stepG (fun vq _ => vq = .int .i64 kv) 8 false 16 rfl (by rw [HO.out]; rfl) (by rw [HS.out]; decide) (fun _ _ h => h) (Lit.up _) ?_ ?_
 ·intro a wq hw hl
  have e20 : a.tmps[20]?.getD undef = .agg #[.int .i64 v.t, .slice nA v.n.length nc, .slice sA v.s.length sc, .slice lA v.l.length lc] := hl 20 (by first | (simp [Op.operands]; done) | simp [Op.operands, Call.operands]) (by rw [HS.out]; decide)
  clear hl
  go_simp
  exact gUpon_lit (HKV.out _)
 refine wpFacts_litG (.bool (-x.t != kv)) 8 false 16 rfl (by rw [HO.out]; rfl) (by rw [HS.out]; decide) (fun _ _ h => h) ?_ ?_
 ·intro a wq hw hl
  have e19 : a.tmps[19]?.getD undef = .int .i64 (-x.t) := hl 19 (by first | (simp [Op.operands]; done) | simp [Op.operands, Call.operands]) (by rw [HS.out]; decide)
  have e21 : a.tmps[21]?.getD undef = .int .i64 kv := hl 21 (by first | (simp [Op.operands]; done) | simp [Op.operands, Call.operands]) (by rw [HS.out]; decide)
  clear hl
  go_simp
 refine HL.out _ (fun a' w5 hc => ?_)
 have e16 : a'.eval (.tmp 16) = .bool false := hc.fact 16 (by rw [HS.out]; decide)
 have e22 : a'.eval (.tmp 22) = .bool (-x.t != kv) := hc.fact 22 (by rw [HS.out]; decide)
 have hg5 := gb_trans HGW.out hc.grown (.inl rfl)
 have hfr := hc.frame [8, 9, 10, 11, 12, 13, 14, 15, 16, 17, 18, 19, 20, 21, 22, 23] (by rw [HO.out]; kernel_rfl)
 rw [hfr]
 clear hfr hc
 rw [HA.out]
 clear HA HO HL HW HS HGW A2 A3
 clear A O W L
 simp only [List.drop_succ_cons, List.drop_zero, List.foldl_cons, List.foldl_nil, Act.put, List.setIfInBounds_toArray, List.set_cons_succ, List.set_cons_zero]
 rw [e16, e22]
 generalize a'.eval (.tmp 8) = v8
 generalize a'.eval (.tmp 9) = v9
 generalize a'.eval (.tmp 10) = v10
 generalize a'.eval (.tmp 11) = v11
 generalize a'.eval (.tmp 12) = v12
 generalize a'.eval (.tmp 13) = v13
 generalize a'.eval (.tmp 14) = v14
 generalize a'.eval (.tmp 15) = v15
 generalize a'.eval (.tmp 17) = v17
 generalize a'.eval (.tmp 18) = v18
 generalize a'.eval (.tmp 19) = v19
 generalize a'.eval (.tmp 20) = v20
 generalize a'.eval (.tmp 21) = v21
 generalize a'.eval (.tmp 23) = v23
 clear e16 e22
 clear a'
 have HG5 := hide hg5
 clear hg5
 obtain ⟨c0, c1, c2, c3⟩ := HCV.out.gb HG5.out
 go_wp2_with (go_at_call 45; refine (HCLN.out _ (gb_trans HG.out HG5.out (.inl rfl))).mono ?_; rintro e w6 ⟨mnA, mnc, msA, msc, mlA, mlc, f, rfl, ho, hn, hg6⟩; have HO6 := hide ho; have HN6 := hide hn; have HG6 := hide hg6; clear ho hn hg6 c0 c1 c2 c3)
 obtain ⟨fn, fs, hon, hos, hcn, hcs, hcl, hfn, hfs, hnn, hns⟩ := vow_flat HO6.out HN6.out.1
 have HOW := hide (hon)
 have HCC := hide (show v.n.length ≤ mnc ∧ v.s.length ≤ msc ∧ v.l.length ≤ mlc from ⟨hcn, hcs, hcl⟩)
 have HFB := hide (show ∀ b ∈ fn, w5.heap.size ≤ b ∧ b < w6.heap.size from fun b hb => HN6.out.2 b (hfn b hb))
 have HND := hide hnn
 clear hon hos hcn hcs hcl hfn hfs hnn hns HO6 HN6 HCLN HFLT HAT HXW
 go_loopw [7] (fun i wq => ∃ j : Nat, i = .int .i64 (j : Int) ∧ j ≤ v.n.length ∧ Own wq fn mnA (i64s ((v.n.take j).map (filI q) ++ v.n.drop j)) ∧ wq.heap[w6.heap.size]? = some (.cells #[.int .i64 v.t, .slice mnA v.n.length mnc, .slice msA v.s.length msc, .slice mlA v.l.length mlc] 26 (0, 0)) ∧ Hid (w6.heap.size ≤ wq.heap.size) ∧ w5.grownBy wq none) (fun i _ => v.n.length - (intOf i).toNat)
 case atStart => exact ⟨0, rfl, Nat.zero_le _, by simpa using HOW.out.gb (gb_alloc (gb_refl w6 none) _), heap_alloc_new w6 _, hide (by rw [World.size_alloc]; omega), gb_trans HG6.out (gb_alloc (gb_refl w6 none) _) (.inl rfl)⟩
 case round =>
  obtain ⟨j, rfl, hj, ho, hbx, hsz, hgr⟩ := hrel
  have hga := gb_trans HG5.out hgr (.inl rfl)
  obtain ⟨c0, c1, c2, c3⟩ := c4k (blk_keep HBX.out hga (by simp))
  obtain ⟨e0, e1, e2, e3⟩ := c4k (blk_keep HBY.out hga (by simp))
  have HGA := hide hga
  have HGR := hide hgr
  have HBM := hide hbx
  have HSZ6 := hide hsz.out
  clear hga hgr hbx hsz
  by_cases hlt : j < v.n.length
  ·have hlt1 : (j : Int) < (v.n.length : Int) := by omega
   have h6 : IntKind.i64.wrap ((j : Int) + 1) = ((j + 1 : Nat) : Int) := by rw [IntKind.wrap_i64]; have := HL.out; omega
   obtain ⟨p, hpe⟩ : ∃ p, p = v.n[j] := ⟨_, rfl⟩
   have hnr := HNR.out j hlt
   rw [← hpe] at hnr
   obtain ⟨done, hdone⟩ : ∃ d, d = (v.n.take j).map (filI q) := ⟨_, rfl⟩
   have hdl : done.length = j := by rw [hdone, List.length_map, List.length_take]; omega
   obtain ⟨rest, hrest⟩ : ∃ r, r = v.n.drop (j + 1) := ⟨_, rfl⟩
   have hdr : v.n.drop j = p :: rest := by rw [List.drop_eq_getElem_cons hlt, hpe, hrest]
   have htk : (v.n.take (j + 1)).map (filI q) = done ++ [filI q p] := by rw [List.take_succ_eq_append_getElem hlt, List.map_append, ← hdone, ← hpe]; rfl
   have HNX := hide (show (v.n.take (j + 1)).map (filI q) ++ v.n.drop (j + 1) = done ++ filI q p :: rest by rw [htk, ← hrest]; simp)
   rw [← hdone, hdr] at ho
   have hne : i64s (done ++ p :: rest) ≠ [] := by simp [i64s]
   have HLT := hide hlt
   have hjl : (i64s done).length = j := by simp [i64s, hdl]
   have HJL := hide hjl
   have hnu := fun w2 (hg : wr.grownBy w2 none) => HNU.out w2 j (gb_trans HG.out (gb_trans HGA.out hg (.inl rfl)) (.inl rfl))
   rw [hnr] at hnu
   clear htk hdr hrest hdone hdl hpe hlt hj hnr hjl
   by_cases hb : p = -9223372036854775808
   ·have hbt := int_beq_t hb
    rw [hbt] at hnu
    have HNL := hide hnu
    have HZ := hide (show filI q p = q by unfold filI; rw [if_pos hb])
    rcases ho with ⟨h0, _⟩ | ⟨b, ty, cur, hfe, hAe, hh, htake, _⟩
    ·exact absurd h0 hne
    have HHB := hide hh
    have HTK := hide htake
    have HFE := hide hfe
    have HFBB := hide (show w5.heap.size ≤ b ∧ b < w6.heap.size from HFB.out b (by rw [hfe]; simp))
    have hcz : j < cur.size := by
     have h1 := congrArg List.length htake
     rw [List.length_take] at h1
     have h2 : (i64s (done ++ p :: rest)).length = (i64s done).length + (rest.length + 1) := by simp [i64s]
     have h3 := HJL.out
     rw [← Array.length_toList]
     omega
    have HCZ := hide hcz
    have HAE := hide hAe
    clear hh htake hfe hcz hAe hnu hne hb hbt
    go_upto_region 10 with (first
     | (go_at_call 46; refine (HCN.out _ (gb_trans HG.out HGA.out (.inl rfl))).mono ?_; rintro e w7 ⟨rfl, hg7⟩; have HG7 := hide hg7; clear hg7 c0 c1 c2 c3 e0 e1 e2 e3; obtain ⟨c0, c1, c2, c3⟩ := c4k (blk_keep HBX.out (gb_trans HGA.out HG7.out (.inl rfl)) (by simp)); obtain ⟨e0, e1, e2, e3⟩ := c4k (blk_keep HBY.out (gb_trans HGA.out HG7.out (.inl rfl)) (by simp)))
     | (go_at_call 47; refine (HNL.out _ HG7.out).mono ?_; rintro e w8 ⟨rfl, hg8⟩; have HG8 := hide (gb_trans HG7.out hg8 (.inl rfl)); clear hg8 c0 c1 c2 c3 e0 e1 e2 e3; obtain ⟨c0, c1, c2, c3⟩ := c4k (blk_keep HBX.out (gb_trans HGA.out HG8.out (.inl rfl)) (by simp)); obtain ⟨e0, e1, e2, e3⟩ := c4k (blk_keep HBY.out (gb_trans HGA.out HG8.out (.inl rfl)) (by simp)))
     | (go_at_call 31; refine (HKV.out _).mono ?_; rintro e w9 ⟨rfl, hg9⟩; have HG9 := hide (gb_trans HG8.out hg9 (.inl rfl)); clear hg9 c0 c1 c2 c3 e0 e1 e2 e3))
    have hbm9 := blk_keep HBM.out HG9.out (by simp)
    obtain ⟨k0, k1, k2, k3⟩ : C4 w9 w6.heap.size 0 (.int .i64 v.t) (.slice mnA v.n.length mnc) (.slice msA v.s.length msc) (.slice mlA v.l.length mlc) := (by have h := hbm9; exact c4k h)
    have hh9 := blk_keep HHB.out HG9.out (by simp)
    have HH9 := hide hh9
    rw [HAE.out] at k1
    obtain ⟨e0, e1, e2, e3⟩ := c4k (blk_keep HBY.out (gb_trans HGA.out HG9.out (.inl rfl)) (by simp))
    have el : w9.cell? ⟨eb, eo, none⟩ = some (.int .i64 q) := cell_gb HEL.out (gb_trans HGA.out HG9.out (.inl rfl))
    have zz := blk_frozen hh9 j
    have cz : ∃ u, w9.cell? ⟨b, j, none⟩ = some u := by rw [blk_cell hh9 j]; exact ⟨_, Array.getElem?_eq_getElem HCZ.out⟩
    obtain ⟨u, cz⟩ := cz
    clear hbm9 hh9
    go_region_law (fail)
    all_goals
     go_wp2_with fail
     go_roundw
     case rel =>
      have hlt := HLT.out
      refine ⟨j + 1, by go_num, by omega, ?_, ?_, hide ?_, ?_⟩
      ·rw [HNX.out, HZ.out, HFE.out, HAE.out]
       refine .inr ⟨b, ty, _, rfl, rfl, blk_set (show w9.drew.heap[b]? = _ from HH9.out) j (.int .i64 q), ?_, by simp [i64s]⟩
       rw [Array.toList_setIfInBounds, show (i64s (done ++ q :: rest)).length = (i64s (done ++ p :: rest)).length by simp [i64s], List.take_set, HTK.out]
       rw [show i64s (done ++ p :: rest) = i64s done ++ .int .i64 p :: i64s rest by simp [i64s], show i64s (done ++ q :: rest) = i64s done ++ .int .i64 q :: i64s rest by simp [i64s]]
       rw [List.set_append_right _ _ (by rw [HJL.out]; exact Nat.le_refl _), HJL.out, Nat.sub_self]
       rfl
      ·exact (Below.heap_setCell _ ⟨b, j, none⟩ _ _ (show w6.heap.size ≠ b by have := HFBB.out.2; omega)).trans (blk_keep HBM.out HG9.out (by simp))
      ·have := HSZ6.out
       have := HG9.out.size
       simp [World.setCell, World.drew]
       omega
      ·exact gb_setCell (gb_drew (gb_trans HGR.out HG9.out (.inl rfl))) (.inr HFBB.out.1) _
     case measure => have := HLT.out; simp [intOf]; omega
   ·have hbt := int_beq_f hb
    rw [hbt] at hnu
    have HNL := hide hnu
    have HZ := hide (show filI q p = p by unfold filI; rw [if_neg hb])
    have HOO := hide ho
    clear hnu hne hb hbt ho
    go_wp2_with (first
     | (go_at_call 46; refine (HCN.out _ (gb_trans HG.out HGA.out (.inl rfl))).mono ?_; rintro e w7 ⟨rfl, hg7⟩; have HG7 := hide hg7; clear hg7 c0 c1 c2 c3 e0 e1 e2 e3; obtain ⟨c0, c1, c2, c3⟩ := c4k (blk_keep HBX.out (gb_trans HGA.out HG7.out (.inl rfl)) (by simp)); obtain ⟨e0, e1, e2, e3⟩ := c4k (blk_keep HBY.out (gb_trans HGA.out HG7.out (.inl rfl)) (by simp)))
     | (go_at_call 47; refine (HNL.out _ HG7.out).mono ?_; rintro e w8 ⟨rfl, hg8⟩; have HG8 := hide (gb_trans HG7.out hg8 (.inl rfl)); clear hg8 c0 c1 c2 c3 e0 e1 e2 e3; obtain ⟨c0, c1, c2, c3⟩ := c4k (blk_keep HBX.out (gb_trans HGA.out HG8.out (.inl rfl)) (by simp)); obtain ⟨e0, e1, e2, e3⟩ := c4k (blk_keep HBY.out (gb_trans HGA.out HG8.out (.inl rfl)) (by simp))))
    go_roundw
    case rel =>
     have hlt := HLT.out
     refine ⟨j + 1, by go_num, by omega, ?_, blk_keep HBM.out HG8.out (by simp), hide (by have := HSZ6.out; have := HG8.out.size; omega), gb_trans HGR.out HG8.out (.inl rfl)⟩
     rw [HNX.out, HZ.out]
     exact HOO.out.gb HG8.out
    case measure => have := HLT.out; simp [intOf]; omega
  ·have hlt1 : ¬ (j : Int) < (v.n.length : Int) := by omega
   have hjl : j = v.n.length := by omega
   rw [hjl, List.take_length, List.drop_length, List.append_nil] at ho
   have HOF := hide ho
   clear ho hlt hj hjl
   obtain ⟨ml, hml⟩ : ∃ ml, ml = v.n.map (filI q) := ⟨_, rfl⟩
   rw [← hml] at HOF
   have HME := hide hml
   have HML := hide (show v.n.length = ml.length by rw [hml, List.length_map])
   clear hml
   go_upto_region 11 with (go_at_call 46; refine (HCN.out _ (gb_trans HG.out HGA.out (.inl rfl))).mono ?_; rintro e w7 ⟨rfl, hg7⟩; have HG7 := hide hg7; clear hg7 c0 c1 c2 c3 e0 e1 e2 e3; obtain ⟨c0, c1, c2, c3⟩ := c4k (blk_keep HBX.out (gb_trans HGA.out HG7.out (.inl rfl)) (by simp)); obtain ⟨e0, e1, e2, e3⟩ := c4k (blk_keep HBY.out (gb_trans HGA.out HG7.out (.inl rfl)) (by simp)))
   have hbm7 := blk_keep HBM.out HG7.out (by simp)
   obtain ⟨k0, k1, k2, k3⟩ : C4 w7 w6.heap.size 0 (.int .i64 v.t) (.slice mnA v.n.length mnc) (.slice msA v.s.length msc) (.slice mlA v.l.length mlc) := (by have h := hbm7; exact c4k h)
   clear hbm7
   have hrr := blk_keep HBZ.out (gb_trans HGA.out HG7.out (.inl rfl)) (by simp)
   have HRR := hide hrr
   obtain ⟨z0, z1, z2, z3, y0, y1, y2, y3⟩ := zz4 hrr
   clear hrr
   clear c0 c1 c2 c3 e0 e1 e2 e3
   have HFIN := NewE.fin (x := .mk v.t ml [] []) (wa := w5) (g := w.heap.size + 1 + 1) (vow_back_num (sA := msA) (nA := mnA) (nc := mnc) (sc := msc) (lA := mlA) (lc := mlc) (t := v.t) (by have := HCC.out; have := HML.out; omega) (HOF.out.gb HG7.out)) ⟨HND.out, fun b hb => ⟨(HFB.out b hb).1, by have := (HFB.out b hb).2; have := HSZ6.out; have := HG7.out.size; omega⟩⟩ (gb_trans HG.out HG5.out (.inl rfl)) (gb_trans HGR.out HG7.out (.inl rfl)) (by omega) (by have := HSZ.out; have := HG5.out.size; omega)
   obtain ⟨ho1, ho2⟩ := HOTH.out
   have e1z : v.s.length = 0 := by rw [ho1]; rfl
   have e2z : v.l.length = 0 := by rw [ho2]; rfl
   rw [HML.out] at k1
   rw [e1z] at k2
   rw [e2z] at k3
   clear ho1 ho2 e1z e2z
   go_wp2_with fail
   obtain ⟨m0, m1, m2, m3⟩ := C4.put HRR.out (.int .i64 v.t) (.slice mnA ml.length mnc) (.slice msA 0 msc) (.slice mlA 0 mlc)
   simp only [put4, Nat.zero_add] at m0 m1 m2 m3
   refine bodyPost_ret (v := .tuple #[.agg #[.int .i64 v.t, .slice mnA ml.length mnc, .slice msA 0 msc, .slice mlA 0 mlc], .int .i64 0]) (by simp [results, Tryz.results19, go_sem, m0, m1, m2, m3]) rfl ?_
   rw [← HME.out]
   exact HFIN
set_option maxHeartbeats 8000000 in
set_option maxRecDepth 100000 in
theorem rFill_sym (x : Vl) (xnA : Option Addr) (xnc : Nat) (xsA : Option Addr) (xsc : Nat) (xlA : Option Addr) (xlc : Nat) (v : Vl) (w : World) (B : Nat) (nA : Option Addr) (nc : Nat) (sA : Option Addr) (sc : Nat) (lA : Option Addr) (lc : Nat) (q : ByteArray) (hq : x.s = [q]) (hlow : -1000 ≤ v.t) (_hlx : -1000 ≤ x.t ∧ x.t ≤ 1000) (hf : rFlat v.t = true) (ha : rAtom x.t = true) (hkk : -x.t = rkd v.t) (h3 : rAbs v.t = 3) (hk3 : rkd v.t = 3) (hc : v.count = v.s.length) (hn0 : v.n = []) (hl0 : v.l = []) (ht : v.tot ≤ 1200000000) (hB : B ≤ w.heap.size) (h : VB w B v nA nc sA sc lA lc) (hx : VB w B x xnA xnc xsA xsc xlA xlc) :
  Calls Tryz.prog 19 #[.agg #[.int .i64 x.t, .slice xnA x.n.length xnc, .slice xsA x.s.length xsc, .slice xlA x.l.length xlc], .agg #[.int .i64 v.t, .slice nA v.n.length nc, .slice sA v.s.length sc, .slice lA v.l.length lc]] w (NewE (.mk v.t [] (v.s.map (filS q)) []) w) := by
 obtain ⟨l1, l2, l3, l4⟩ := Vl.lens v ht
 have hxl : x.s.length = 1 := by rw [hq]; rfl
 rw [hxl]
 obtain ⟨wa, hwa⟩ : ∃ wa, wa = ((w.alloc (.cells #[.int .i64 x.t, .slice xnA x.n.length xnc, .slice xsA 1 xsc, .slice xlA x.l.length xlc] 26)).alloc (.cells #[.int .i64 v.t, .slice nA v.n.length nc, .slice sA v.s.length sc, .slice lA v.l.length lc] 26)).alloc (.cells #[.int .i64 0, .slice none 0 0, .slice none 0 0, .slice none 0 0] 26) := ⟨_, rfl⟩
 have by_ : wa.heap[w.heap.size]? = some (.cells #[.int .i64 x.t, .slice xnA x.n.length xnc, .slice xsA 1 xsc, .slice xlA x.l.length xlc] 26 (0, 0)) := by rw [hwa]; exact (Below.heap_alloc _ _ _ (by rw [World.size_alloc, World.size_alloc]; omega)).trans ((Below.heap_alloc _ _ _ (by rw [World.size_alloc]; omega)).trans (heap_alloc_new w _))
 have bx : wa.heap[w.heap.size + 1]? = some (.cells #[.int .i64 v.t, .slice nA v.n.length nc, .slice sA v.s.length sc, .slice lA v.l.length lc] 26 (0, 0)) := by rw [hwa]; refine (Below.heap_alloc _ _ _ (by rw [World.size_alloc, World.size_alloc]; omega)).trans ?_; have := heap_alloc_new (w.alloc (.cells #[.int .i64 x.t, .slice xnA x.n.length xnc, .slice xsA 1 xsc, .slice xlA x.l.length xlc] 26)) (.cells #[.int .i64 v.t, .slice nA v.n.length nc, .slice sA v.s.length sc, .slice lA v.l.length lc] 26); rwa [World.size_alloc] at this
 have bz : wa.heap[w.heap.size + 1 + 1]? = some (.cells #[.int .i64 0, .slice none 0 0, .slice none 0 0, .slice none 0 0] 26 (0, 0)) := by rw [hwa]; have := heap_alloc_new ((w.alloc (.cells #[.int .i64 x.t, .slice xnA x.n.length xnc, .slice xsA 1 xsc, .slice xlA x.l.length xlc] 26)).alloc (.cells #[.int .i64 v.t, .slice nA v.n.length nc, .slice sA v.s.length sc, .slice lA v.l.length lc] 26)) (.cells #[.int .i64 0, .slice none 0 0, .slice none 0 0, .slice none 0 0] 26); rwa [World.size_alloc, World.size_alloc] at this
 have HBY := hide by_
 have HBX := hide bx
 have HBZ := hide bz
 have HSZ := hide (show wa.heap.size = w.heap.size + 3 by rw [hwa]; simp)
 have HG := hide (show w.grownBy wa none by rw [hwa]; exact gb_alloc (gb_alloc (gb_alloc (gb_refl w none) _) _) _)
 have HWE := hide hwa
 obtain ⟨c0, c1, c2, c3⟩ := c4k (blk_keep HBX.out (gb_refl wa none) (by simp))
 obtain ⟨e0, e1, e2, e3⟩ := c4k (blk_keep HBY.out (gb_refl wa none) (by simp))
 have hfl := fun w2 => rFlat_any v.t (.slice nA v.n.length nc) (.slice sA v.s.length sc) (.slice lA v.l.length lc) w2
 have HKV := hide (fun w2 => rKind_any v.t hlow (.slice nA v.n.length nc) (.slice sA v.s.length sc) (.slice lA v.l.length lc) w2)
 have hat := fun w2 => rAtom_any x.t (.slice xnA x.n.length xnc) (.slice xsA 1 xsc) (.slice xlA x.l.length xlc) w2
 have hxw : IntKind.i64.wrap (-x.t) = -x.t := by rw [IntKind.wrap_i64]; omega
 rw [hf] at hfl
 have HFLT := hide hfl
 rw [ha] at hat
 have HAT := hide hat
 have HXW := hide hxw
 have hfc : FlatC v := by unfold FlatC; rw [if_pos h3]; exact hc
 have HCN := hide (fun w2 (hg : w.grownBy w2 none) => rCount_any v w2 B nA nc sA sc lA lc ht (Nat.le_trans hB hg.size) (h.gb hg hB))
 have HNU := hide (fun w2 (i : Nat) (hg : w.grownBy w2 none) => rNull_any v (i : Int) w2 B nA nc sA sc lA lc (fun _ => hfc) ht (Nat.le_trans hB hg.size) (h.gb hg hB))
 have HCLN := hide (fun w2 (hg : w.grownBy w2 none) => rClone_d v.depth v w2 B nA nc sA sc lA lc (Nat.le_refl _) ht (Nat.le_trans hB hg.size) (h.gb hg hB))
 rw [hc] at HCN
 have HNR : Hid (∀ (j : Nat) (hj : j < v.s.length), nullR v (j : Int) = v.s[j].toList.isEmpty) := hide (fun j hj => by
  unfold nullR
  rw [if_neg (by intro h9; unfold rFlat at hf; rw [h9.1, h9.2] at hf; cases hf), if_neg (by rw [hc]; omega), if_pos h3]
  show (v.s.getD j ⟨#[]⟩).toList.isEmpty = _; rw [List.getD_eq_getElem?_getD, List.getElem?_eq_getElem hj]; rfl)
 have hxr := (hx.gb HG.out hB).s
 rw [hq] at hxr
 obtain ⟨eb, eo, hea, _, hec⟩ := hxr.lay (by simp [strs])
 have HEL := hide (show wa.cell? ⟨eb, eo, none⟩ = some (.string q) from hec 0 _ rfl)
 subst hea
 have q3 : (-x.t != rkd v.t) = false := by rw [hkk]; simp
 have q8 : (rkd v.t == 3) = true := int_beq_t hk3
 generalize rkd v.t = kv at *
 have HL := hide l2
 have HOTH := hide (show v.n = [] ∧ v.l = [] from ⟨hn0, hl0⟩)
 clear by_ bx bz hwa hat hfl hf ha hkk hk3 h3 hc hn0 hl0 ht hB h hx hxw hfc hxr hec hq hxl hlow _hlx l1 l2 l3 l4
 go_enter Tryz.func19, Tryz.ntmps19
 go_upto_region 1 with fail
 rw [← HWE.out]
 have HCV := hide (show C4 wa (w.heap.size + 1) 0 _ _ _ _ from ⟨c0, c1, c2, c3⟩)
 have HCX := hide (show C4 wa w.heap.size 0 _ _ _ _ from ⟨e0, e1, e2, e3⟩)
 clear c0 c1 c2 c3 e0 e1 e2 e3
 refine wp_region_facts' 15 (by kernel_rfl) (by kernel_rfl) ?_
 intro A O W L HA HO HW HL
 simp only [List.take_succ_cons, List.take_zero]
 have HS := hide (show A.tmps.size = 57 by rw [HA.out]; rfl)
 have HGW := hide (show wa.grownBy W none by rw [HW.out]; exact gb_drew (gb_refl wa none))
 have A2 := hide (show A.eval (.tmp 2) = .pointer (some ⟨w.heap.size, 0, none⟩) by rw [HA.out]; rfl)
 have A3 := hide (show A.eval (.tmp 3) = .pointer (some ⟨w.heap.size + 1, 0, none⟩) by rw [HA.out]; rfl)
 refine wpFacts_lit (.agg #[.int .i64 v.t, .slice nA v.n.length nc, .slice sA v.s.length sc, .slice lA v.l.length lc]) rfl ?_ ?_
 ·intro a wq hw hl
  have e3 : a.tmps[3]?.getD undef = .pointer (some ⟨w.heap.size + 1, 0, none⟩) := (hl 3 (by first | (simp [Op.operands]; done) | simp [Op.operands, Call.operands]) (by rw [HS.out]; decide)).trans A3.out
  have c0 := cell_gb HCV.out.c0 (gb_trans HGW.out hw (.inl rfl))
  have c1 := cell_gb HCV.out.c1 (gb_trans HGW.out hw (.inl rfl))
  have c2 := cell_gb HCV.out.c2 (gb_trans HGW.out hw (.inl rfl))
  have c3 := cell_gb HCV.out.c3 (gb_trans HGW.out hw (.inl rfl))
  clear hl
  go_simp
 refine wpFacts_step (fun vq _ => vq = .bool true) rfl (Lit.up _) ?_ ?_
 ·intro a wq hw hl
  have e8 : a.tmps[8]?.getD undef = .agg #[.int .i64 v.t, .slice nA v.n.length nc, .slice sA v.s.length sc, .slice lA v.l.length lc] := hl 8 (by first | (simp [Op.operands]; done) | simp [Op.operands, Call.operands]) (by rw [HS.out]; decide)
  clear hl
  go_simp
  exact gUpon_lit (HFLT.out _)
 refine wpFacts_lit (.bool false) rfl ?_ ?_
 ·intro a wq hw hl
  have e9 : a.tmps[9]?.getD undef = .bool true := hl 9 (by first | (simp [Op.operands]; done) | simp [Op.operands, Call.operands]) (by rw [HS.out]; decide)
  clear hl
  go_simp
 refine wpFacts_lit (.bool false) rfl ?_ ?_
 ·intro a wq hw hl
  have e10 : a.tmps[10]?.getD undef = .bool false := hl 10 (by first | (simp [Op.operands]; done) | simp [Op.operands, Call.operands]) (by rw [HS.out]; decide)
  clear hl
  go_simp
 refine wpFacts_litG (.agg #[.int .i64 x.t, .slice xnA x.n.length xnc, .slice (some ⟨eb, eo, none⟩) 1 xsc, .slice xlA x.l.length xlc]) 3 false 11 rfl (by rw [HO.out]; rfl) (by rw [HS.out]; decide) (fun _ _ h => h) ?_ ?_
 ·intro a wq hw hl
  have e2 : a.tmps[2]?.getD undef = .pointer (some ⟨w.heap.size, 0, none⟩) := (hl 2 (by first | (simp [Op.operands]; done) | simp [Op.operands, Call.operands]) (by rw [HS.out]; decide)).trans A2.out
  have d0 := cell_gb HCX.out.c0 (gb_trans HGW.out hw (.inl rfl))
  have d1 := cell_gb HCX.out.c1 (gb_trans HGW.out hw (.inl rfl))
  have d2 := cell_gb HCX.out.c2 (gb_trans HGW.out hw (.inl rfl))
  have d3 := cell_gb HCX.out.c3 (gb_trans HGW.out hw (.inl rfl))
  clear hl
  go_simp
 refine wpFacts_stepG (fun vq _ => vq = .bool true) 3 false 11 rfl (by rw [HO.out]; rfl) (by rw [HS.out]; decide) (fun _ _ h => h) (Lit.up _) ?_ ?_
 ·intro a wq hw hl
  have e12 : a.tmps[12]?.getD undef = .agg #[.int .i64 x.t, .slice xnA x.n.length xnc, .slice (some ⟨eb, eo, none⟩) 1 xsc, .slice xlA x.l.length xlc] := hl 12 (by first | (simp [Op.operands]; done) | simp [Op.operands, Call.operands]) (by rw [HS.out]; decide)
  clear hl
  go_simp
  exact gUpon_lit (HAT.out _)
 refine wpFacts_litG (.bool false) 3 false 11 rfl (by rw [HO.out]; rfl) (by rw [HS.out]; decide) (fun _ _ h => h) ?_ ?_
 ·intro a wq hw hl
  have e13 : a.tmps[13]?.getD undef = .bool true := hl 13 (by first | (simp [Op.operands]; done) | simp [Op.operands, Call.operands]) (by rw [HS.out]; decide)
  clear hl
  go_simp
 refine wpFacts_lit (.bool false) rfl ?_ ?_
 ·intro a wq hw hl
  have e11 : a.tmps[11]?.getD undef = .bool false := hl 11 (by first | (simp [Op.operands]; done) | simp [Op.operands, Call.operands]) (by rw [HS.out]; decide)
  have e14 : a.tmps[14]?.getD undef = .bool false := hl 14 (by first | (simp [Op.operands]; done) | simp [Op.operands, Call.operands]) (by rw [HS.out]; decide)
  clear hl
  go_simp
 refine wpFacts_lit (.bool false) rfl ?_ ?_
 ·intro a wq hw hl
  have e15 : a.tmps[15]?.getD undef = .bool false := hl 15 (by first | (simp [Op.operands]; done) | simp [Op.operands, Call.operands]) (by rw [HS.out]; decide)
  clear hl
  go_simp
 refine wpFacts_litG (.pointer (some ⟨w.heap.size, 0, none⟩)) 8 false 16 rfl (by rw [HO.out]; rfl) (by rw [HS.out]; decide) (fun _ _ h => h) ?_ ?_
 ·intro a wq hw hl
  have e2 : a.tmps[2]?.getD undef = .pointer (some ⟨w.heap.size, 0, none⟩) := (hl 2 (by first | (simp [Op.operands]; done) | simp [Op.operands, Call.operands]) (by rw [HS.out]; decide)).trans A2.out
  clear hl
  go_simp
 refine wpFacts_litG (.int .i64 x.t) 8 false 16 rfl (by rw [HO.out]; rfl) (by rw [HS.out]; decide) (fun _ _ h => h) ?_ ?_
 ·intro a wq hw hl
  have e17 : a.tmps[17]?.getD undef = .pointer (some ⟨w.heap.size, 0, none⟩) := hl 17 (by first | (simp [Op.operands]; done) | simp [Op.operands, Call.operands]) (by rw [HS.out]; decide)
  have d0 := cell_gb HCX.out.c0 (gb_trans HGW.out hw (.inl rfl))
  have d1 := cell_gb HCX.out.c1 (gb_trans HGW.out hw (.inl rfl))
  have d2 := cell_gb HCX.out.c2 (gb_trans HGW.out hw (.inl rfl))
  have d3 := cell_gb HCX.out.c3 (gb_trans HGW.out hw (.inl rfl))
  clear hl
  go_simp
 refine wpFacts_litG (.int .i64 (-x.t)) 8 false 16 rfl (by rw [HO.out]; rfl) (by rw [HS.out]; decide) (fun _ _ h => h) ?_ ?_
 ·intro a wq hw hl
  have e18 : a.tmps[18]?.getD undef = .int .i64 x.t := hl 18 (by first | (simp [Op.operands]; done) | simp [Op.operands, Call.operands]) (by rw [HS.out]; decide)
  have hxw := HXW.out
  clear hl
  go_simp
 refine wpFacts_litG (.agg #[.int .i64 v.t, .slice nA v.n.length nc, .slice sA v.s.length sc, .slice lA v.l.length lc]) 8 false 16 rfl (by rw [HO.out]; rfl) (by rw [HS.out]; decide) (fun _ _ h => h) ?_ ?_
 ·intro a wq hw hl
  have e3 : a.tmps[3]?.getD undef = .pointer (some ⟨w.heap.size + 1, 0, none⟩) := (hl 3 (by first | (simp [Op.operands]; done) | simp [Op.operands, Call.operands]) (by rw [HS.out]; decide)).trans A3.out
  have c0 := cell_gb HCV.out.c0 (gb_trans HGW.out hw (.inl rfl))
  have c1 := cell_gb HCV.out.c1 (gb_trans HGW.out hw (.inl rfl))
  have c2 := cell_gb HCV.out.c2 (gb_trans HGW.out hw (.inl rfl))
  have c3 := cell_gb HCV.out.c3 (gb_trans HGW.out hw (.inl rfl))
  clear hl
  go_simp
 refine wpFacts_stepG (fun vq _ => vq = .int .i64 kv) 8 false 16 rfl (by rw [HO.out]; rfl) (by rw [HS.out]; decide) (fun _ _ h => h) (Lit.up _) ?_ ?_
 ·intro a wq hw hl
  have e20 : a.tmps[20]?.getD undef = .agg #[.int .i64 v.t, .slice nA v.n.length nc, .slice sA v.s.length sc, .slice lA v.l.length lc] := hl 20 (by first | (simp [Op.operands]; done) | simp [Op.operands, Call.operands]) (by rw [HS.out]; decide)
  clear hl
  go_simp
  exact gUpon_lit (HKV.out _)
 refine wpFacts_litG (.bool (-x.t != kv)) 8 false 16 rfl (by rw [HO.out]; rfl) (by rw [HS.out]; decide) (fun _ _ h => h) ?_ ?_
 ·intro a wq hw hl
  have e19 : a.tmps[19]?.getD undef = .int .i64 (-x.t) := hl 19 (by first | (simp [Op.operands]; done) | simp [Op.operands, Call.operands]) (by rw [HS.out]; decide)
  have e21 : a.tmps[21]?.getD undef = .int .i64 kv := hl 21 (by first | (simp [Op.operands]; done) | simp [Op.operands, Call.operands]) (by rw [HS.out]; decide)
  clear hl
  go_simp
 refine HL.out _ (fun a' w5 hc => ?_)
 have e16 : a'.eval (.tmp 16) = .bool false := hc.fact 16 (by rw [HS.out]; decide)
 have e22 : a'.eval (.tmp 22) = .bool (-x.t != kv) := hc.fact 22 (by rw [HS.out]; decide)
 have hg5 := gb_trans HGW.out hc.grown (.inl rfl)
 have hfr := hc.frame [8, 9, 10, 11, 12, 13, 14, 15, 16, 17, 18, 19, 20, 21, 22, 23] (by rw [HO.out]; kernel_rfl)
 rw [hfr]
 clear hfr hc
 rw [HA.out]
 clear HA HO HL HW HS HGW A2 A3
 clear A O W L
 simp only [List.drop_succ_cons, List.drop_zero, List.foldl_cons, List.foldl_nil, Act.put, List.setIfInBounds_toArray, List.set_cons_succ, List.set_cons_zero]
 rw [e16, e22]
 generalize a'.eval (.tmp 8) = v8
 generalize a'.eval (.tmp 9) = v9
 generalize a'.eval (.tmp 10) = v10
 generalize a'.eval (.tmp 11) = v11
 generalize a'.eval (.tmp 12) = v12
 generalize a'.eval (.tmp 13) = v13
 generalize a'.eval (.tmp 14) = v14
 generalize a'.eval (.tmp 15) = v15
 generalize a'.eval (.tmp 17) = v17
 generalize a'.eval (.tmp 18) = v18
 generalize a'.eval (.tmp 19) = v19
 generalize a'.eval (.tmp 20) = v20
 generalize a'.eval (.tmp 21) = v21
 generalize a'.eval (.tmp 23) = v23
 clear e16 e22
 clear a'
 have HG5 := hide hg5
 clear hg5
 obtain ⟨c0, c1, c2, c3⟩ := HCV.out.gb HG5.out
 go_wp2_with (go_at_call 45; refine (HCLN.out _ (gb_trans HG.out HG5.out (.inl rfl))).mono ?_; rintro e w6 ⟨mnA, mnc, msA, msc, mlA, mlc, f, rfl, ho, hn, hg6⟩; have HO6 := hide ho; have HN6 := hide hn; have HG6 := hide hg6; clear ho hn hg6 c0 c1 c2 c3)
 obtain ⟨fn, fs, hon, hos, hcn, hcs, hcl, hfn, hfs, hnn, hns⟩ := vow_flat HO6.out HN6.out.1
 have HOW := hide (hos)
 have HCC := hide (show v.n.length ≤ mnc ∧ v.s.length ≤ msc ∧ v.l.length ≤ mlc from ⟨hcn, hcs, hcl⟩)
 have HFB := hide (show ∀ b ∈ fs, w5.heap.size ≤ b ∧ b < w6.heap.size from fun b hb => HN6.out.2 b (hfs b hb))
 have HND := hide hns
 clear hon hos hcn hcs hcl hfn hfs hnn hns HO6 HN6 HCLN HFLT HAT HXW
 go_loopw [7] (fun i wq => ∃ j : Nat, i = .int .i64 (j : Int) ∧ j ≤ v.s.length ∧ Own wq fs msA (strs ((v.s.take j).map (filS q) ++ v.s.drop j)) ∧ wq.heap[w6.heap.size]? = some (.cells #[.int .i64 v.t, .slice mnA v.n.length mnc, .slice msA v.s.length msc, .slice mlA v.l.length mlc] 26 (0, 0)) ∧ Hid (w6.heap.size ≤ wq.heap.size) ∧ w5.grownBy wq none) (fun i _ => v.s.length - (intOf i).toNat)
 case atStart => exact ⟨0, rfl, Nat.zero_le _, by simpa using HOW.out.gb (gb_alloc (gb_refl w6 none) _), heap_alloc_new w6 _, hide (by rw [World.size_alloc]; omega), gb_trans HG6.out (gb_alloc (gb_refl w6 none) _) (.inl rfl)⟩
 case round =>
  obtain ⟨j, rfl, hj, ho, hbx, hsz, hgr⟩ := hrel
  have hga := gb_trans HG5.out hgr (.inl rfl)
  obtain ⟨c0, c1, c2, c3⟩ := c4k (blk_keep HBX.out hga (by simp))
  obtain ⟨e0, e1, e2, e3⟩ := c4k (blk_keep HBY.out hga (by simp))
  have HGA := hide hga
  have HGR := hide hgr
  have HBM := hide hbx
  have HSZ6 := hide hsz.out
  clear hga hgr hbx hsz
  by_cases hlt : j < v.s.length
  ·have hlt1 : (j : Int) < (v.s.length : Int) := by omega
   have h6 : IntKind.i64.wrap ((j : Int) + 1) = ((j + 1 : Nat) : Int) := by rw [IntKind.wrap_i64]; have := HL.out; omega
   obtain ⟨p, hpe⟩ : ∃ p, p = v.s[j] := ⟨_, rfl⟩
   have hnr := HNR.out j hlt
   rw [← hpe] at hnr
   obtain ⟨done, hdone⟩ : ∃ d, d = (v.s.take j).map (filS q) := ⟨_, rfl⟩
   have hdl : done.length = j := by rw [hdone, List.length_map, List.length_take]; omega
   obtain ⟨rest, hrest⟩ : ∃ r, r = v.s.drop (j + 1) := ⟨_, rfl⟩
   have hdr : v.s.drop j = p :: rest := by rw [List.drop_eq_getElem_cons hlt, hpe, hrest]
   have htk : (v.s.take (j + 1)).map (filS q) = done ++ [filS q p] := by rw [List.take_succ_eq_append_getElem hlt, List.map_append, ← hdone, ← hpe]; rfl
   have HNX := hide (show (v.s.take (j + 1)).map (filS q) ++ v.s.drop (j + 1) = done ++ filS q p :: rest by rw [htk, ← hrest]; simp)
   rw [← hdone, hdr] at ho
   have hne : strs (done ++ p :: rest) ≠ [] := by simp [strs]
   have HLT := hide hlt
   have hjl : (strs done).length = j := by simp [strs, hdl]
   have HJL := hide hjl
   have hnu := fun w2 (hg : wr.grownBy w2 none) => HNU.out w2 j (gb_trans HG.out (gb_trans HGA.out hg (.inl rfl)) (.inl rfl))
   rw [hnr] at hnu
   clear htk hdr hrest hdone hdl hpe hlt hj hnr hjl
   cases hb : p.toList.isEmpty
   ·rw [hb] at hnu
    have HNL := hide hnu
    have HZ := hide (show filS q p = p by unfold filS; rw [hb]; rfl)
    have HOO := hide ho
    clear hnu hne hb ho
    go_wp2_with (first
     | (go_at_call 46; refine (HCN.out _ (gb_trans HG.out HGA.out (.inl rfl))).mono ?_; rintro e w7 ⟨rfl, hg7⟩; have HG7 := hide hg7; clear hg7 c0 c1 c2 c3 e0 e1 e2 e3; obtain ⟨c0, c1, c2, c3⟩ := c4k (blk_keep HBX.out (gb_trans HGA.out HG7.out (.inl rfl)) (by simp)); obtain ⟨e0, e1, e2, e3⟩ := c4k (blk_keep HBY.out (gb_trans HGA.out HG7.out (.inl rfl)) (by simp)))
     | (go_at_call 47; refine (HNL.out _ HG7.out).mono ?_; rintro e w8 ⟨rfl, hg8⟩; have HG8 := hide (gb_trans HG7.out hg8 (.inl rfl)); clear hg8 c0 c1 c2 c3 e0 e1 e2 e3; obtain ⟨c0, c1, c2, c3⟩ := c4k (blk_keep HBX.out (gb_trans HGA.out HG8.out (.inl rfl)) (by simp)); obtain ⟨e0, e1, e2, e3⟩ := c4k (blk_keep HBY.out (gb_trans HGA.out HG8.out (.inl rfl)) (by simp))))
    go_roundw
    case rel =>
     have hlt := HLT.out
     refine ⟨j + 1, by go_num, by omega, ?_, blk_keep HBM.out HG8.out (by simp), hide (by have := HSZ6.out; have := HG8.out.size; omega), gb_trans HGR.out HG8.out (.inl rfl)⟩
     rw [HNX.out, HZ.out]
     exact HOO.out.gb HG8.out
    case measure => have := HLT.out; simp [intOf]; omega
   ·rw [hb] at hnu
    have HNL := hide hnu
    have HZ := hide (show filS q p = q by unfold filS; rw [hb]; rfl)
    rcases ho with ⟨h0, _⟩ | ⟨b, ty, cur, hfe, hAe, hh, htake, _⟩
    ·exact absurd h0 hne
    have HHB := hide hh
    have HTK := hide htake
    have HFE := hide hfe
    have HFBB := hide (show w5.heap.size ≤ b ∧ b < w6.heap.size from HFB.out b (by rw [hfe]; simp))
    have hcz : j < cur.size := by
     have h1 := congrArg List.length htake
     rw [List.length_take] at h1
     have h2 : (strs (done ++ p :: rest)).length = (strs done).length + (rest.length + 1) := by simp [strs]
     have h3 := HJL.out
     rw [← Array.length_toList]
     omega
    have HCZ := hide hcz
    have HAE := hide hAe
    clear hh htake hfe hcz hAe hnu hne hb
    go_upto_region 9 with (first
     | (go_at_call 46; refine (HCN.out _ (gb_trans HG.out HGA.out (.inl rfl))).mono ?_; rintro e w7 ⟨rfl, hg7⟩; have HG7 := hide hg7; clear hg7 c0 c1 c2 c3 e0 e1 e2 e3; obtain ⟨c0, c1, c2, c3⟩ := c4k (blk_keep HBX.out (gb_trans HGA.out HG7.out (.inl rfl)) (by simp)); obtain ⟨e0, e1, e2, e3⟩ := c4k (blk_keep HBY.out (gb_trans HGA.out HG7.out (.inl rfl)) (by simp)))
     | (go_at_call 47; refine (HNL.out _ HG7.out).mono ?_; rintro e w8 ⟨rfl, hg8⟩; have HG8 := hide (gb_trans HG7.out hg8 (.inl rfl)); clear hg8 c0 c1 c2 c3 e0 e1 e2 e3; obtain ⟨c0, c1, c2, c3⟩ := c4k (blk_keep HBX.out (gb_trans HGA.out HG8.out (.inl rfl)) (by simp)); obtain ⟨e0, e1, e2, e3⟩ := c4k (blk_keep HBY.out (gb_trans HGA.out HG8.out (.inl rfl)) (by simp)))
     | (go_at_call 31; refine (HKV.out _).mono ?_; rintro e w9 ⟨rfl, hg9⟩; have HG9 := hide (gb_trans HG8.out hg9 (.inl rfl)); clear hg9 c0 c1 c2 c3 e0 e1 e2 e3))
    have hbm9 := blk_keep HBM.out HG9.out (by simp)
    obtain ⟨k0, k1, k2, k3⟩ : C4 w9 w6.heap.size 0 (.int .i64 v.t) (.slice mnA v.n.length mnc) (.slice msA v.s.length msc) (.slice mlA v.l.length mlc) := (by have h := hbm9; exact c4k h)
    have hh9 := blk_keep HHB.out HG9.out (by simp)
    have HH9 := hide hh9
    rw [HAE.out] at k2
    obtain ⟨e0, e1, e2, e3⟩ := c4k (blk_keep HBY.out (gb_trans HGA.out HG9.out (.inl rfl)) (by simp))
    have el : w9.cell? ⟨eb, eo, none⟩ = some (.string q) := cell_gb HEL.out (gb_trans HGA.out HG9.out (.inl rfl))
    have zz := blk_frozen hh9 j
    have cz : ∃ u, w9.cell? ⟨b, j, none⟩ = some u := by rw [blk_cell hh9 j]; exact ⟨_, Array.getElem?_eq_getElem HCZ.out⟩
    obtain ⟨u, cz⟩ := cz
    clear hbm9 hh9
    go_region_law (fail)
    all_goals
     go_wp2_with fail
     go_roundw
     case rel =>
      have hlt := HLT.out
      refine ⟨j + 1, by go_num, by omega, ?_, ?_, hide ?_, ?_⟩
      ·rw [HNX.out, HZ.out, HFE.out, HAE.out]
       refine .inr ⟨b, ty, _, rfl, rfl, blk_set (show w9.drew.heap[b]? = _ from HH9.out) j (.string q), ?_, by simp [strs]⟩
       rw [Array.toList_setIfInBounds, show (strs (done ++ q :: rest)).length = (strs (done ++ p :: rest)).length by simp [strs], List.take_set, HTK.out]
       rw [show strs (done ++ p :: rest) = strs done ++ .string p :: strs rest by simp [strs], show strs (done ++ q :: rest) = strs done ++ .string q :: strs rest by simp [strs]]
       rw [List.set_append_right _ _ (by rw [HJL.out]; exact Nat.le_refl _), HJL.out, Nat.sub_self]
       rfl
      ·exact (Below.heap_setCell _ ⟨b, j, none⟩ _ _ (show w6.heap.size ≠ b by have := HFBB.out.2; omega)).trans (blk_keep HBM.out HG9.out (by simp))
      ·have := HSZ6.out
       have := HG9.out.size
       simp [World.setCell, World.drew]
       omega
      ·exact gb_setCell (gb_drew (gb_trans HGR.out HG9.out (.inl rfl))) (.inr HFBB.out.1) _
     case measure => have := HLT.out; simp [intOf]; omega
  ·have hlt1 : ¬ (j : Int) < (v.s.length : Int) := by omega
   have hjl : j = v.s.length := by omega
   rw [hjl, List.take_length, List.drop_length, List.append_nil] at ho
   have HOF := hide ho
   clear ho hlt hj hjl
   obtain ⟨ml, hml⟩ : ∃ ml, ml = v.s.map (filS q) := ⟨_, rfl⟩
   rw [← hml] at HOF
   have HME := hide hml
   have HML := hide (show v.s.length = ml.length by rw [hml, List.length_map])
   clear hml
   go_upto_region 11 with (go_at_call 46; refine (HCN.out _ (gb_trans HG.out HGA.out (.inl rfl))).mono ?_; rintro e w7 ⟨rfl, hg7⟩; have HG7 := hide hg7; clear hg7 c0 c1 c2 c3 e0 e1 e2 e3; obtain ⟨c0, c1, c2, c3⟩ := c4k (blk_keep HBX.out (gb_trans HGA.out HG7.out (.inl rfl)) (by simp)); obtain ⟨e0, e1, e2, e3⟩ := c4k (blk_keep HBY.out (gb_trans HGA.out HG7.out (.inl rfl)) (by simp)))
   have hbm7 := blk_keep HBM.out HG7.out (by simp)
   obtain ⟨k0, k1, k2, k3⟩ : C4 w7 w6.heap.size 0 (.int .i64 v.t) (.slice mnA v.n.length mnc) (.slice msA v.s.length msc) (.slice mlA v.l.length mlc) := (by have h := hbm7; exact c4k h)
   clear hbm7
   have hrr := blk_keep HBZ.out (gb_trans HGA.out HG7.out (.inl rfl)) (by simp)
   have HRR := hide hrr
   obtain ⟨z0, z1, z2, z3, y0, y1, y2, y3⟩ := zz4 hrr
   clear hrr
   clear c0 c1 c2 c3 e0 e1 e2 e3
   have HFIN := NewE.fin (x := .mk v.t [] ml []) (wa := w5) (g := w.heap.size + 1 + 1) (vow_back_sym (sA := msA) (nA := mnA) (nc := mnc) (sc := msc) (lA := mlA) (lc := mlc) (t := v.t) (by have := HCC.out; have := HML.out; omega) (HOF.out.gb HG7.out)) ⟨HND.out, fun b hb => ⟨(HFB.out b hb).1, by have := (HFB.out b hb).2; have := HSZ6.out; have := HG7.out.size; omega⟩⟩ (gb_trans HG.out HG5.out (.inl rfl)) (gb_trans HGR.out HG7.out (.inl rfl)) (by omega) (by have := HSZ.out; have := HG5.out.size; omega)
   obtain ⟨ho1, ho2⟩ := HOTH.out
   have e1z : v.n.length = 0 := by rw [ho1]; rfl
   have e2z : v.l.length = 0 := by rw [ho2]; rfl
   rw [HML.out] at k2
   rw [e1z] at k1
   rw [e2z] at k3
   clear ho1 ho2 e1z e2z
   go_wp2_with fail
   obtain ⟨m0, m1, m2, m3⟩ := C4.put HRR.out (.int .i64 v.t) (.slice mnA 0 mnc) (.slice msA ml.length msc) (.slice mlA 0 mlc)
   simp only [put4, Nat.zero_add] at m0 m1 m2 m3
   refine bodyPost_ret (v := .tuple #[.agg #[.int .i64 v.t, .slice mnA 0 mnc, .slice msA ml.length msc, .slice mlA 0 mlc], .int .i64 0]) (by simp [results, Tryz.results19, go_sem, m0, m1, m2, m3]) rfl ?_
   rw [← HME.out]
   exact HFIN
end Go.Proofs.YtbmgodmfpoappaaGreat
