/-
  vec.Reverse of any vector or list.
-/
import Derived.Test.YtkbflmaflokpdaaGreatQLk
import Derived.Deep.RegionLaw

namespace Go.Proofs.YtkbflmaflokpdaaGreat
open Go.RowKit
attribute [local go_sem ↓] Go.wp_at_zero Go.wp_at_succ

/-- The first j and the last j turned round. -/
def revJ (l : List Int) (j : Nat) : List Int := (List.range l.length).map fun i => if i < j ∨ l.length - j ≤ i then l.getD (l.length - 1 - i) 0 else l.getD i 0
theorem revJ_length (l : List Int) (j : Nat) : (revJ l j).length = l.length := by simp [revJ]
theorem revJ_at (l : List Int) (j i : Nat) (h : i < l.length) : (revJ l j)[i]? = some (if i < j ∨ l.length - j ≤ i then l.getD (l.length - 1 - i) 0 else l.getD i 0) := by
  simp [revJ, h]
theorem revJ_zero (l : List Int) : revJ l 0 = l := by
  apply List.ext_getElem?
  intro i
  by_cases h : i < l.length
  · rw [revJ_at l 0 i h, if_neg (by omega), List.getElem?_eq_getElem h, List.getD_eq_getElem?_getD, List.getElem?_eq_getElem h]; rfl
  · rw [List.getElem?_eq_none (by rw [revJ_length]; omega), List.getElem?_eq_none (by omega)]
theorem revJ_step (l : List Int) (j : Nat) (h : 2 * j + 1 < l.length) : ((i64s (revJ l j)).set j (.int .i64 (l.getD (l.length - 1 - j) 0))).set (l.length - 1 - j) (.int .i64 (l.getD j 0)) = i64s (revJ l (j + 1)) := by
  apply List.ext_getElem?
  intro i
  by_cases hi : i < l.length
  · have e : ∀ k, (i64s (revJ l k))[i]? = some (.int .i64 (if i < k ∨ l.length - k ≤ i then l.getD (l.length - 1 - i) 0 else l.getD i 0)) := fun k => by
      unfold i64s; rw [List.getElem?_map, revJ_at l k i hi]; rfl
    by_cases h1 : i = l.length - 1 - j
    · subst h1
      rw [List.getElem?_set_self (by simp [i64s, revJ_length]; omega), e, if_pos (by omega), show l.length - 1 - (l.length - 1 - j) = j by omega]
    · rw [List.getElem?_set_ne (by omega)]
      by_cases h2 : i = j
      · subst h2
        rw [List.getElem?_set_self (by simp [i64s, revJ_length]; omega), e, if_pos (by omega)]
      · rw [List.getElem?_set_ne (by omega), e, e]
        by_cases h3 : i < j ∨ l.length - j ≤ i
        · rw [if_pos h3, if_pos (by omega)]
        · rw [if_neg h3, if_neg (by omega)]
  · rw [List.getElem?_eq_none (by simp [i64s, revJ_length]; omega), List.getElem?_eq_none (by simp [i64s, revJ_length]; omega)]
theorem revJ_all (l : List Int) (j : Nat) (h : l.length ≤ 2 * j + 1) : revJ l j = l.reverse := by
  apply List.ext_getElem?
  intro i
  by_cases hi : i < l.length
  · rw [revJ_at l j i hi, List.getElem?_reverse hi, List.getElem?_eq_getElem (by omega)]
    by_cases h1 : i < j ∨ l.length - j ≤ i
    · rw [if_pos h1, List.getD_eq_getElem?_getD, List.getElem?_eq_getElem (by omega)]; rfl
    · rw [if_neg h1]
      have : l.length - 1 - i = i := by omega
      simp only [this]
      rw [List.getD_eq_getElem?_getD, List.getElem?_eq_getElem hi]; rfl
  · rw [List.getElem?_eq_none (by rw [revJ_length]; omega), List.getElem?_eq_none (by simp; omega)]
set_option maxHeartbeats 4000000 in
set_option maxRecDepth 100000 in
theorem reverse_row (l : List Int) (g base n : Nat) (w : World) (hn : l.length = n) (h1 : n ≤ 1200000000) (ho : w.ownsRow base 2 1 (.slice (some ⟨g, 0, none⟩) n n) n (i64s l)) :
    Calls Tryz.prog 28 #[.slice (some ⟨g, 0, none⟩) n n] w fun e w' => e = .returned (.tuple #[]) ∧ w'.ownsRow base 2 1 (.slice (some ⟨g, 0, none⟩) n n) n (i64s l.reverse) ∧ w.grownBy w' (some g) := by
  have HO := hide ho
  have HN := hide hn
  have HL := hide h1
  have h5 : IntKind.i64.wrap ((n : Int) - 1) = (n : Int) - 1 := by rw [IntKind.wrap_i64]; omega
  clear ho hn h1
  go_enter Tryz.func28, Tryz.ntmps28
  go_wp2_with fail
  go_loopw [2, 3] (fun i k wr => ∃ j : Nat, i = .int .i64 (j : Int) ∧ k = .int .i64 ((n : Int) - 1 - (j : Int)) ∧ 2 * j ≤ n + 1 ∧ wr.ownsRow base 2 1 (.slice (some ⟨g, 0, none⟩) n n) n (i64s (revJ l j)) ∧ w.grownBy wr (some g)) (fun i _ _ => n - (intOf i).toNat)
  case atStart => exact ⟨0, rfl, by simp, by omega, by rw [revJ_zero]; exact HO.out, gb_refl w (some g)⟩
  case round =>
    obtain ⟨j, rfl, rfl, hj, how, hgr⟩ := hrel
    by_cases hlt : 2 * j + 1 < n
    · obtain ⟨k, hk⟩ : ∃ k : Nat, k = n - 1 - j := ⟨_, rfl⟩
      have hke : (n : Int) - 1 - (j : Int) = (k : Int) := by omega
      have HKE := hide hke
      have HK := hide hk
      rw [hke]
      have hlt1 : (j : Int) < (k : Int) := by omega
      have hjn : j < n := by omega
      have hkn : k < n := by omega
      have hji : (j : Int) < (n : Int) := by omega
      have hki : (k : Int) < (n : Int) := by omega
      have h6 : IntKind.i64.wrap ((j : Int) + 1) = ((j + 1 : Nat) : Int) := by rw [IntKind.wrap_i64]; have := HL.out; omega
      have h7 : IntKind.i64.wrap ((k : Int) - 1) = (k : Int) - 1 := by rw [IntKind.wrap_i64]; have := HL.out; omega
      have cj := how.cellAt j (by omega)
      have ck := how.cellAt k (by omega)
      have HNL := hide HN.out
      rw [show (i64s (revJ l j))[j]? = some (.int .i64 (l.getD j 0)) by unfold i64s; rw [List.getElem?_map, revJ_at l j j (by rw [HN.out]; exact hjn), if_neg (by have := HN.out; omega)]; rfl] at cj
      rw [show (i64s (revJ l j))[k]? = some (.int .i64 (l.getD k 0)) by unfold i64s; rw [List.getElem?_map, revJ_at l j k (by rw [HN.out]; exact hkn), if_neg (by have := HN.out; omega)]; rfl] at ck
      obtain ⟨x, hx⟩ : ∃ x, x = l.getD j 0 := ⟨_, rfl⟩
      obtain ⟨y, hy⟩ : ∃ y, y = l.getD k 0 := ⟨_, rfl⟩
      rw [← hx] at cj
      rw [← hy] at ck
      have zj := how.frozenAt j
      have zk := how.frozenAt k
      have how2 := (how.stored j (.int .i64 y)).1
      have zk2 := how2.frozenAt k
      have ck2 := how2.cellAt k (by omega)
      rw [List.getElem?_set_ne (by omega), show (i64s (revJ l j))[k]? = some (.int .i64 y) by rw [← how.cellAt k (by omega)]; exact ck] at ck2
      have HX := hide hx
      have HY := hide hy
      have HOW := hide how
      have HGR := hide hgr
      have HLT := hide hlt
      clear hx hy how how2 hgr hk hke hj hjn hkn hlt HN
      go_wp2_with fail
      go_region_law (fail)
      all_goals
        go_wp2_with fail
        go_roundw
        case rel =>
          have hlt := HLT.out
          have hnl := HNL.out
          have hk := HK.out
          have hgs : w.grownBy ((wr.setCell ⟨g, j, none⟩ (.int .i64 y)).setCell ⟨g, k, none⟩ (.int .i64 x)) (some g) := gb_setCell (gb_setCell HGR.out (.inl rfl) _) (.inl rfl) _
          refine ⟨j + 1, by go_num, by go_num, by omega, ?_, gb_drew hgs⟩
          have h8 := ((HOW.out.stored j (.int .i64 y)).1.stored k (.int .i64 x)).1
          have h9 := revJ_step l j (by omega)
          rw [show l.length - 1 - j = k by omega, ← HX.out, ← HY.out] at h9
          rw [h9] at h8
          exact h8
        case measure =>
          have hlt := HLT.out
          simp [intOf]
          omega
    · have hlt1 : ¬ (j : Int) < (n : Int) - 1 - (j : Int) := by omega
      have HRV := hide (show wr.ownsRow base 2 1 (.slice (some ⟨g, 0, none⟩) n n) n (i64s l.reverse) by rw [← revJ_all l j (by have := HN.out; omega)]; exact how)
      have HGR := hide hgr
      clear how hgr hj hlt
      go_wp2_with fail
      go_end0
      exact ⟨rfl, HRV.out, HGR.out⟩
end Go.Proofs.YtkbflmaflokpdaaGreat

namespace Go.Proofs.YtkbflmaflokpdaaGreat
open Go.RowKit
attribute [local go_sem ↓] Go.wp_at_zero Go.wp_at_succ

set_option maxHeartbeats 8000000 in
set_option maxRecDepth 100000 in
theorem reverse_any (x : Vl) (w : World) (B : Nat) (nA : Option Addr) (nc : Nat) (sA : Option Addr) (sc : Nat) (lA : Option Addr) (lc : Nat)
    (hs : seqT x.t) (htot : x.tot ≤ 1200000000) (hB : B ≤ w.heap.size) (vx : VB w B x nA nc sA sc lA lc) (htt : x.t = 0 → Vl.tots ((rowI 0 x.count).reverse.map (pickV x.l emp)) ≤ 1200000000) :
    Calls Tryz.prog 9 #[.agg #[.int .i64 x.t, .slice nA x.n.length nc, .slice sA x.s.length sc, .slice lA x.l.length lc]] w (TupV (idxV x (rowI 0 x.count).reverse) w) := by
  have hcc := hs.count htot
  have hcnt := fun w2 (hg : w.grownBy w2 none) => count_d x.depth x w2 B nA nc sA sc lA lc (Nat.le_refl _) htot (Nat.le_trans hB hg.size) (vx.gb hg hB)
  obtain ⟨m, hm⟩ : ∃ m, m = x.count := ⟨_, rfl⟩
  rw [← hm] at hcc hcnt htt ⊢
  obtain ⟨ps, hps⟩ : ∃ ps, ps = (rowI 0 m).reverse := ⟨_, rfl⟩
  have hpl : ps.length = m := by rw [hps]; simp [rowI_length]
  have hrow := fun w2 => rowG_any 0 (m : Int) m (by omega) hcc (by omega) w2
  rw [← hps] at htt ⊢
  have hidx := fun w2 (gb : Nat) (hg : w.grownBy w2 none) (hr : Rd w2 w2.heap.size (some ⟨gb, 0, none⟩) (i64s ps)) => index_any x ps w2 B nA nc sA sc lA lc (some ⟨gb, 0, none⟩) m hs htt htot (Nat.le_trans hB hg.size) (vx.gb hg hB) hr (by omega)
  obtain ⟨rv, hrv⟩ : ∃ rv, rv = idxV x ps := ⟨_, rfl⟩
  rw [hpl] at hidx
  rw [← hrv] at hidx ⊢
  have HROW := hide hrow
  have HIDX := hide hidx
  have HCNT := hide hcnt
  have HPS := hide hps
  have HCC := hide hcc
  obtain ⟨wa, hwa⟩ : ∃ wa, wa = (w.alloc (.cells #[.int .i64 x.t, .slice nA x.n.length nc, .slice sA x.s.length sc, .slice lA x.l.length lc] 26)).alloc (.cells #[.int .i64 0, .slice none 0 0, .slice none 0 0, .slice none 0 0] 26) := ⟨_, rfl⟩
  have bx : wa.heap[w.heap.size]? = some (.cells #[.int .i64 x.t, .slice nA x.n.length nc, .slice sA x.s.length sc, .slice lA x.l.length lc] 26 (0, 0)) := by rw [hwa]; exact (Below.heap_alloc _ _ _ (by rw [World.size_alloc]; omega)).trans (heap_alloc_new w _)
  have bz : wa.heap[w.heap.size + 1]? = some (.cells #[.int .i64 0, .slice none 0 0, .slice none 0 0, .slice none 0 0] 26 (0, 0)) := by rw [hwa]; have := heap_alloc_new (w.alloc (.cells #[.int .i64 x.t, .slice nA x.n.length nc, .slice sA x.s.length sc, .slice lA x.l.length lc] 26)) (.cells #[.int .i64 0, .slice none 0 0, .slice none 0 0, .slice none 0 0] 26); rwa [World.size_alloc] at this
  have HBX := hide bx
  have HBZ := hide bz
  have HG0 := hide (show w.grownBy wa none by rw [hwa]; exact gb_alloc (gb_alloc (gb_refl w none) _) _)
  have HWE := hide hwa
  have HGA := hide (gb_refl wa none)
  have HBXA := hide bx
  have HBZA := hide bz
  obtain ⟨c0, c1, c2, c3⟩ : C4 wa w.heap.size 0 (.int .i64 x.t) (.slice nA x.n.length nc) (.slice sA x.s.length sc) (.slice lA x.l.length lc) := ⟨by rw [blk_cell bx]; rfl, by rw [blk_cell bx]; rfl, by rw [blk_cell bx]; rfl, by rw [blk_cell bx]; rfl⟩
  clear bx bz hwa htot hs hB vx hcnt hidx hrow hps hrv htt hcc hpl hm
  go_enter Tryz.func9, Tryz.ntmps9
  go_wp2_with fail
  rw [← HWE.out]
  go_wp2_with (first
    | (go_at_call 27; refine (HCNT.out _ HG0.out).mono ?_; rintro e w1 ⟨rfl, hg1⟩; have HBXn := hide (blk_keep HBX.out hg1 (by simp)); have HBZn := hide (blk_keep HBZ.out hg1 (by simp)); clear HBX HBZ; have HBX := hide HBXn.out; have HBZ := hide HBZn.out; clear HBXn HBZn; (try clear c0 c1 c2 c3); obtain ⟨c0, c1, c2, c3⟩ : C4 w1 w.heap.size 0 (.int .i64 x.t) (.slice nA x.n.length nc) (.slice sA x.s.length sc) (.slice lA x.l.length lc) := (by have h := HBX.out; exact ⟨by rw [blk_cell h]; rfl, by rw [blk_cell h]; rfl, by rw [blk_cell h]; rfl, by rw [blk_cell h]; rfl⟩); have HGn := hide (gb_trans HGA.out hg1 (.inl rfl)); clear HGA; have HGA := hide HGn.out; clear HGn hg1)
    | (go_at_call 26; refine (HROW.out _).mono ?_; rintro e w2 ⟨rfl, hg1, ho⟩; have HO := hide ho; have HBXn := hide (blk_keep HBX.out hg1 (by simp)); have HBZn := hide (blk_keep HBZ.out hg1 (by simp)); clear HBX HBZ; have HBX := hide HBXn.out; have HBZ := hide HBZn.out; clear HBXn HBZn; (try clear c0 c1 c2 c3); obtain ⟨c0, c1, c2, c3⟩ : C4 w2 w.heap.size 0 (.int .i64 x.t) (.slice nA x.n.length nc) (.slice sA x.s.length sc) (.slice lA x.l.length lc) := (by have h := HBX.out; exact ⟨by rw [blk_cell h]; rfl, by rw [blk_cell h]; rfl, by rw [blk_cell h]; rfl, by rw [blk_cell h]; rfl⟩); have HGn := hide (gb_trans HGA.out hg1 (.inl rfl)); have HGB := hide (HGA.out.size); clear HGA; have HGA := hide HGn.out; clear HGn hg1 ho)
    | (go_at_call 28; refine (reverse_row _ _ _ _ _ (rowI_length 0 m) HCC.out HO.out).mono ?_; rintro e w3 ⟨rfl, ho, hg1⟩; have HOR := hide ho; have HGC := hide (gb_trans HGA.out hg1 (.inr (.inr ⟨_, rfl, HGB.out⟩))); clear HBX HBZ c0 c1 c2 c3; have HBX := hide (blk_keep HBXA.out HGC.out (by simp)); have HBZ1 := hide (blk_keep HBZA.out HGC.out (by simp)); have HGW := hide (gb_trans HG0.out HGC.out (.inl rfl)); have HRD := hide (Rd.of_own ho); obtain ⟨c0, c1, c2, c3⟩ : C4 w3 w.heap.size 0 (.int .i64 x.t) (.slice nA x.n.length nc) (.slice sA x.s.length sc) (.slice lA x.l.length lc) := (by have h := HBX.out; exact ⟨by rw [blk_cell h]; rfl, by rw [blk_cell h]; rfl, by rw [blk_cell h]; rfl, by rw [blk_cell h]; rfl⟩); clear ho hg1)
    | (go_at_call 17; refine (HIDX.out _ _ HGW.out (by rw [HPS.out]; exact HRD.out)).mono ?_; rintro e w5 ⟨iA, ic, jA, jc, kA, kc, f, rfl, ho, hn, hg5⟩; have HG5 := hide hg5; have HO5 := hide ho; have HN5 := hide hn; have hr2 := blk_keep HBZ1.out hg5 (by simp); have HR2 := hide hr2; have z0 := blk_frozen hr2 0; have z1 := blk_frozen hr2 1; have z2 := blk_frozen hr2 2; have z3 := blk_frozen hr2 3; have y0 : w5.cell? ⟨w.heap.size + 1, 0, none⟩ = some (.int .i64 0) := (by { rw [blk_cell hr2]; rfl }); have y1 : w5.cell? ⟨w.heap.size + 1, 1, none⟩ = some (.slice none 0 0) := (by { rw [blk_cell hr2]; rfl }); have y2 : w5.cell? ⟨w.heap.size + 1, 2, none⟩ = some (.slice none 0 0) := (by { rw [blk_cell hr2]; rfl }); have y3 : w5.cell? ⟨w.heap.size + 1, 3, none⟩ = some (.slice none 0 0) := (by { rw [blk_cell hr2]; rfl }); clear hg5 ho hn hr2))
  have hb := put_four HR2.out (.int .i64 rv.t) (.slice iA rv.n.length ic) (.slice jA rv.s.length jc) (.slice kA rv.l.length kc)
  have m0 : ((((w5.setCell ⟨w.heap.size + 1, 0, none⟩ (.int .i64 rv.t)).setCell ⟨w.heap.size + 1, 1, none⟩ (.slice iA rv.n.length ic)).setCell ⟨w.heap.size + 1, 2, none⟩ (.slice jA rv.s.length jc)).setCell ⟨w.heap.size + 1, 3, none⟩ (.slice kA rv.l.length kc)).cell? ⟨w.heap.size + 1, 0, none⟩ = some (.int .i64 rv.t) := (blk_cell hb 0).trans rfl
  have m1 : ((((w5.setCell ⟨w.heap.size + 1, 0, none⟩ (.int .i64 rv.t)).setCell ⟨w.heap.size + 1, 1, none⟩ (.slice iA rv.n.length ic)).setCell ⟨w.heap.size + 1, 2, none⟩ (.slice jA rv.s.length jc)).setCell ⟨w.heap.size + 1, 3, none⟩ (.slice kA rv.l.length kc)).cell? ⟨w.heap.size + 1, 1, none⟩ = some (.slice iA rv.n.length ic) := (blk_cell hb 1).trans rfl
  have m2 : ((((w5.setCell ⟨w.heap.size + 1, 0, none⟩ (.int .i64 rv.t)).setCell ⟨w.heap.size + 1, 1, none⟩ (.slice iA rv.n.length ic)).setCell ⟨w.heap.size + 1, 2, none⟩ (.slice jA rv.s.length jc)).setCell ⟨w.heap.size + 1, 3, none⟩ (.slice kA rv.l.length kc)).cell? ⟨w.heap.size + 1, 2, none⟩ = some (.slice jA rv.s.length jc) := (blk_cell hb 2).trans rfl
  have m3 : ((((w5.setCell ⟨w.heap.size + 1, 0, none⟩ (.int .i64 rv.t)).setCell ⟨w.heap.size + 1, 1, none⟩ (.slice iA rv.n.length ic)).setCell ⟨w.heap.size + 1, 2, none⟩ (.slice jA rv.s.length jc)).setCell ⟨w.heap.size + 1, 3, none⟩ (.slice kA rv.l.length kc)).cell? ⟨w.heap.size + 1, 3, none⟩ = some (.slice kA rv.l.length kc) := (blk_cell hb 3).trans rfl
  refine bodyPost_ret (v := .tuple #[.agg #[.int .i64 rv.t, .slice iA rv.n.length ic, .slice jA rv.s.length jc, .slice kA rv.l.length kc], .int .i64 0]) (by simp [results, Tryz.results9, go_sem, m0, m1, m2, m3]) rfl ?_
  have hsz := HGW.out.size
  have hsz2 := blk_lt HBZ1.out
  refine ⟨iA, ic, jA, jc, kA, kc, f, rfl, VOw.keep _ _ _ HO5.out fun b hm => put_four_other (by have := (HN5.out.2 b hm).1; omega) _ _ _ _, ⟨HN5.out.1, fun b hb => ?_⟩, put_four_gb (gb_trans HGW.out HG5.out (.inl rfl)) (Nat.le_add_right _ 1) _ _ _ _⟩
  have h2 := HN5.out.2 b hb
  refine ⟨by omega, ?_⟩
  simp [World.setCell]
  exact h2.2
end Go.Proofs.YtkbflmaflokpdaaGreat
