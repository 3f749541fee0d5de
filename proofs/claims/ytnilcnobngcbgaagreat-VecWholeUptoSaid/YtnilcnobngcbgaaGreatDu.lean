/-
  vec.isSequence.
-/
import Derived.Test.YtnilcnobngcbgaaGreatDt
namespace Go.Proofs.YtnilcnobngcbgaaGreat
open Go.RowKit
attribute [local go_sem ↓] Go.wp_at_zero Go.wp_at_succ

set_option maxHeartbeats 2000000 in
set_option maxRecDepth 100000 in
theorem isSeq_any (t : Int) (nA : Option Addr) (nl nc : Nat) (sA : Option Addr) (sl sc : Nat) (c3 : Value) (w : World) :
    Calls Tryz.prog 34 #[.agg #[.int .i64 t, .slice nA nl nc, .slice sA sl sc, c3]] w fun e w' => e = .returned (.bool (kindO t sl nl == t)) ∧ w.grownBy w' none := by
  obtain ⟨wa, hwa⟩ : ∃ wa, wa = w.alloc (.cells #[.int .i64 t, .slice nA nl nc, .slice sA sl sc, c3] 26) := ⟨_, rfl⟩
  have hc := C4.box w (.int .i64 t) (.slice nA nl nc) (.slice sA sl sc) c3 26
  rw [← hwa] at hc
  have HC := hide hc
  have HG := hide (show w.grownBy wa none by rw [hwa]; exact gb_alloc (gb_refl w none) _)
  have HWE := hide hwa
  clear hc hwa
  go_enter Tryz.func34, Tryz.ntmps34
  go_wp2_with fail
  rw [← HWE.out]
  refine wp_region_facts' 5 (by kernel_rfl) (by kernel_rfl) ?_
  intro A O W L HA HO HW HL
  simp only [List.take_succ_cons, List.take_zero]
  have HS := hide (show A.tmps.size = 8 by rw [HA.out]; rfl)
  have HGW := hide (show wa.grownBy W none by rw [HW.out]; exact gb_drew (gb_refl wa none))
  have A1 := hide (show A.eval (.tmp 1) = .pointer (some ⟨w.heap.size, 0, none⟩) by rw [HA.out]; rfl)
  -- slot 3
  refine wpFacts_lit (.agg #[.int .i64 t, .slice nA nl nc, .slice sA sl sc, c3]) rfl ?_ ?_
  · intro a wq hw hl
    have e1 : a.tmps[1]?.getD undef = .pointer (some ⟨w.heap.size, 0, none⟩) := (hl 1 (by first | (simp [Op.operands]; done) | simp [Op.operands, Call.operands]) (by rw [HS.out]; decide)).trans A1.out
    obtain ⟨c0, c1, c2, c3⟩ := HC.out.gb (gb_trans HGW.out hw (.inl rfl))
    clear hl
    go_simp
  -- slot 4
  refine wpFacts_step (fun vq _ => vq = .int .i64 (kindO t sl nl)) rfl (Lit.up _) ?_ ?_
  · intro a wq hw hl
    have e3 : a.tmps[3]?.getD undef = .agg #[.int .i64 t, .slice nA nl nc, .slice sA sl sc, c3] := hl 3 (by first | (simp [Op.operands]; done) | simp [Op.operands, Call.operands]) (by rw [HS.out]; decide)
    clear hl
    go_simp
    exact gUpon_lit (kind_any _ _ _ _ _ _ _ _ _)
  -- slot 5
  refine wpFacts_lit (.pointer (some ⟨w.heap.size, 0, none⟩)) rfl ?_ ?_
  · intro a wq hw hl
    have e1 : a.tmps[1]?.getD undef = .pointer (some ⟨w.heap.size, 0, none⟩) := (hl 1 (by first | (simp [Op.operands]; done) | simp [Op.operands, Call.operands]) (by rw [HS.out]; decide)).trans A1.out
    clear hl
    go_simp
  -- slot 6
  refine wpFacts_lit (.int .i64 t) rfl ?_ ?_
  · intro a wq hw hl
    have e5 : a.tmps[5]?.getD undef = .pointer (some ⟨w.heap.size, 0, none⟩) := hl 5 (by first | (simp [Op.operands]; done) | simp [Op.operands, Call.operands]) (by rw [HS.out]; decide)
    obtain ⟨c0, c1, c2, c3⟩ := HC.out.gb (gb_trans HGW.out hw (.inl rfl))
    clear hl
    go_simp
  -- slot 7
  refine wpFacts_lit (.bool (kindO t sl nl == t)) rfl ?_ ?_
  · intro a wq hw hl
    have e4 : a.tmps[4]?.getD undef = .int .i64 (kindO t sl nl) := hl 4 (by first | (simp [Op.operands]; done) | simp [Op.operands, Call.operands]) (by rw [HS.out]; decide)
    have e6 : a.tmps[6]?.getD undef = .int .i64 t := hl 6 (by first | (simp [Op.operands]; done) | simp [Op.operands, Call.operands]) (by rw [HS.out]; decide)
    clear hl
    go_simp
  refine HL.out _ (fun a' w5 hc => ?_)
  have e7 : a'.eval (.tmp 7) = .bool (kindO t sl nl == t) := hc.fact 7 (by rw [HS.out]; decide)
  have hgw5 := gb_trans HGW.out hc.grown (.inl rfl)
  have hfr := hc.frame [3, 4, 5, 6, 7, 2] (by rw [HO.out]; kernel_rfl)
  rw [hfr]
  clear hfr hc
  rw [HA.out]
  clear HA HO HL HW HS HGW A1
  clear A O W L
  simp only [List.drop_succ_cons, List.drop_zero, List.foldl_cons, List.foldl_nil, Act.put, List.setIfInBounds_toArray, List.set_cons_succ, List.set_cons_zero]
  rw [e7]
  generalize a'.eval (.tmp 3) = x3
  generalize a'.eval (.tmp 4) = x4
  generalize a'.eval (.tmp 5) = x5
  generalize a'.eval (.tmp 6) = x6
  generalize a'.eval (.tmp 2) = x2
  clear e7
  clear a'
  have HG5 := hide (gb_trans HG.out hgw5 (.inl rfl))
  clear hgw5
  go_wp2_with fail
  exact bodyPost_ret (v := .bool (kindO t sl nl == t)) (by simp [results, Tryz.results34, go_sem]) rfl ⟨rfl, HG5.out⟩
end Go.Proofs.YtnilcnobngcbgaaGreat
