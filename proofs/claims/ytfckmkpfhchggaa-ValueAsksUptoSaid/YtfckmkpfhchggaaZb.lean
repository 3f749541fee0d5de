/-
  The document's Of.
-/
import Derived.Test.YtfckmkpfhchggaaWy
import Derived.Test.YtfckmkpfhchggaaWk
import Derived.Test.YtfckmkpfhchggaaRg
namespace Go.Proofs.Ytfckmkpfhchggaa
open Go.RowKit
attribute [local go_sem ↓] Go.wp_at_zero Go.wp_at_succ

theorem alikeV_zero {l : List Vl} (m : Int) (h : 0 < l.length) : alikeV l m 0 = true := by
  unfold alikeV
  simp [h]

set_option maxHeartbeats 16000000 in
set_option maxRecDepth 100000 in
theorem rOf_list (l : List Vl) (w : World) (B : Nat) (A : Option Addr) (c : Nat) (hu : alikeV l (headT l) l.length = false) (hl0 : 0 < l.length) (ht : Vl.tots l ≤ 1100000) (hB : B ≤ w.heap.size) (h : RdV w B A l) :
    Calls Try.prog 78 #[.slice A l.length c] w (NewV (.mk 0 [] [] l) w) := by
  obtain ⟨wa, hwa⟩ : ∃ wa, wa = w.alloc (.cells #[.int .i64 0, .slice none 0 0, .slice none 0 0, .slice none 0 0] 26) := ⟨_, rfl⟩
  have hg : w.grownBy wa none := by rw [hwa]; exact gb_alloc (gb_refl w none) _
  have hr : wa.heap[w.heap.size]? = some (.cells #[.int .i64 0, .slice none 0 0, .slice none 0 0, .slice none 0 0] 26 (0, 0)) := by rw [hwa]; exact heap_alloc_new w _
  have HSZ := hide (show wa.heap.size = w.heap.size + 1 by rw [hwa]; simp)
  have HG := hide hg
  have HR := hide hr
  have HWE := hide hwa
  have l1 : l.length ≤ 1100000 := Nat.le_trans (Vl.length_le_tots l) ht
  have HT := hide ht
  have H := hide h
  have HBB := hide hB
  obtain ⟨q, o, xA0, xc0, yA0, yc0, zA0, zc0, rfl, hqB0, hc40, hvb0⟩ := h.first hl0
  have hc00 := hc40.c0
  rw [← headT_at hl0] at hc00
  have HC40 := hide hc00
  have HUN := hide hu
  have hl01 : (0 : Int) < (l.length : Int) := by omega
  have HAZ := hide (alikeV_zero (headT l) hl0)
  have HL0 := hide hl0
  have HLN : Hid (l ≠ []) := hide (by intro e; rw [e] at hl0; exact Nat.lt_irrefl 0 hl0)
  clear hu ht hB h hg hr hwa hc00 hc40 hvb0 hqB0
  clear hl0
  generalize headT l = t0 at *
  go_enter Try.func78, Try.ntmps78
  go_wp2_with fail
  rw [← HWE.out]
  go_loopw [3, 4] (fun al i wr => ∃ j : Nat, i = .int .i64 (j : Int) ∧ j ≤ l.length ∧ al = .bool (alikeV l t0 j) ∧ wa.grownBy wr none) (fun _ i _ => l.length - (intOf i).toNat)
  case atStart => exact ⟨0, rfl, Nat.zero_le _, by rw [HAZ.out, decide_eq_true HL0.out], gb_refl wa none⟩
  case round =>
      obtain ⟨j, rfl, hj, rfl, hgr⟩ := hrel
      by_cases hlt : j < l.length
      · have hlt1 : (j : Int) < (l.length : Int) := by omega
        obtain ⟨q', o', xA, xc, yA, yc, zA, zc, hA', hqB, hc4', hvb'⟩ := H.out.at_ hlt
        simp only [Option.some.injEq, Addr.mk.injEq, and_true] at hA'
        obtain ⟨rfl, rfl⟩ := hA'
        obtain ⟨y, hy⟩ : ∃ y, y = l[j] := ⟨_, rfl⟩
        have hc4 : C4 w q (o + j * 4) (.int .i64 y.t) (.slice xA y.n.length xc) (.slice yA y.s.length yc) (.slice zA y.l.length zc) := by subst hy; exact hc4'
        have hvb : VB w B y xA xc yA yc zA zc := by subst hy; exact hvb'
        have hal : alikeV l t0 (j + 1) = (alikeV l t0 j && (rAtom y.t && decide (y.t = t0))) := by subst hy; exact alikeV_succ hlt
        have hgw := gb_trans HG.out hgr (.inl rfl)
        have hc5 := hc4.gb hgw
        have HD0 := hide hc5.c0
        have HD1 := hide hc5.c1
        have HD2 := hide hc5.c2
        have HD3 := hide hc5.c3
        have HE0 := hide (cell_gb HC40.out hgw)
        have HAT := hide (fun w2 => rAtom_any y.t (.slice xA y.n.length xc) (.slice yA y.s.length yc) (.slice zA y.l.length zc) w2)
        have HAL := hide hal
        have HGR := hide hgr
        have HJ := hide hlt
        clear hy hc4 hvb hc4' hvb' hal hgw hc5 hgr
        generalize alikeV l t0 j = al at *
        generalize hq1 : alikeV l t0 (j + 1) = al1 at *
        have HAQ := hide hq1
        clear hq1
        generalize rAtom y.t = ra at HAT HAL
        by_cases ha : ra = true
        · subst ha
          go_wp2_with fail
          refine wp_region_facts' 17 (by kernel_rfl) (by kernel_rfl) ?_
          intro A O W L HA HO HW HL
          simp only [List.take_succ_cons, List.take_zero]
          have HS := hide (show A.tmps.size = 87 by rw [HA.out]; rfl)
          have HGW := hide (show wr.grownBy W none by rw [HW.out]; exact gb_drew (gb_refl wr none))
          have A0 := hide (show A.eval (.tmp 0) = .slice (some ⟨q, o, none⟩) l.length c by rw [HA.out]; rfl)
          have A4 := hide (show A.eval (.tmp 4) = .int .i64 (j : Int) by rw [HA.out]; rfl)
          -- slot 18
          refine wpFacts_lit (.slice (some ⟨q, o, none⟩) l.length c) rfl ?_ ?_
          · intro a wq hw hl
            have e0 : a.tmps[0]?.getD undef = .slice (some ⟨q, o, none⟩) l.length c := (hl 0 (by first | (simp [Op.operands]; done) | simp [Op.operands, Call.operands]) (by rw [HS.out]; decide)).trans A0.out
            clear hl
            go_simp
          -- slot 19
          refine wpFacts_lit (.int .i64 (j : Int)) rfl ?_ ?_
          · intro a wq hw hl
            have e4 : a.tmps[4]?.getD undef = .int .i64 (j : Int) := (hl 4 (by first | (simp [Op.operands]; done) | simp [Op.operands, Call.operands]) (by rw [HS.out]; decide)).trans A4.out
            clear hl
            go_simp
          -- slot 20
          refine wpFacts_lit (.pointer (some ⟨q, o + j * 4, none⟩)) rfl ?_ ?_
          · intro a wq hw hl
            have e18 : a.tmps[18]?.getD undef = .slice (some ⟨q, o, none⟩) l.length c := hl 18 (by first | (simp [Op.operands]; done) | simp [Op.operands, Call.operands]) (by rw [HS.out]; decide)
            have e19 : a.tmps[19]?.getD undef = .int .i64 (j : Int) := hl 19 (by first | (simp [Op.operands]; done) | simp [Op.operands, Call.operands]) (by rw [HS.out]; decide)
            have hlt9 := hlt1
            clear hl
            go_simp
          -- slot 21
          refine wpFacts_lit (.agg #[.int .i64 y.t, .slice xA y.n.length xc, .slice yA y.s.length yc, .slice zA y.l.length zc]) rfl ?_ ?_
          · intro a wq hw hl
            have e20 : a.tmps[20]?.getD undef = .pointer (some ⟨q, o + j * 4, none⟩) := hl 20 (by first | (simp [Op.operands]; done) | simp [Op.operands, Call.operands]) (by rw [HS.out]; decide)
            have c0 := cell_gb HD0.out (gb_trans HGW.out hw (.inl rfl))
            have c1 := cell_gb HD1.out (gb_trans HGW.out hw (.inl rfl))
            have c2 := cell_gb HD2.out (gb_trans HGW.out hw (.inl rfl))
            have c3 := cell_gb HD3.out (gb_trans HGW.out hw (.inl rfl))
            clear hl
            go_simp
          -- slot 22
          refine wpFacts_step (fun vq _ => vq = .bool true) rfl (Lit.up _) ?_ ?_
          · intro a wq hw hl
            have e21 : a.tmps[21]?.getD undef = .agg #[.int .i64 y.t, .slice xA y.n.length xc, .slice yA y.s.length yc, .slice zA y.l.length zc] := hl 21 (by first | (simp [Op.operands]; done) | simp [Op.operands, Call.operands]) (by rw [HS.out]; decide)
            clear hl
            go_simp
            exact gUpon_lit (HAT.out _)
          -- slot 23
          refine wpFacts_lit (.bool false) rfl ?_ ?_
          · intro a wq hw hl
            have e22 : a.tmps[22]?.getD undef = .bool true := hl 22 (by first | (simp [Op.operands]; done) | simp [Op.operands, Call.operands]) (by rw [HS.out]; decide)
            clear hl
            go_simp
          -- slot 24
          refine wpFacts_lit (.bool false) rfl ?_ ?_
          · intro a wq hw hl
            have e23 : a.tmps[23]?.getD undef = .bool false := hl 23 (by first | (simp [Op.operands]; done) | simp [Op.operands, Call.operands]) (by rw [HS.out]; decide)
            clear hl
            go_simp
          -- slot 25
          refine wpFacts_litG (.slice (some ⟨q, o, none⟩) l.length c) 6 false 24 rfl (by rw [HO.out]; rfl) (by rw [HS.out]; decide) (fun _ _ h => h) ?_ ?_
          · intro a wq hw hl
            have e0 : a.tmps[0]?.getD undef = .slice (some ⟨q, o, none⟩) l.length c := (hl 0 (by first | (simp [Op.operands]; done) | simp [Op.operands, Call.operands]) (by rw [HS.out]; decide)).trans A0.out
            clear hl
            go_simp
          -- slot 26
          refine wpFacts_litG (.int .i64 (j : Int)) 6 false 24 rfl (by rw [HO.out]; rfl) (by rw [HS.out]; decide) (fun _ _ h => h) ?_ ?_
          · intro a wq hw hl
            have e4 : a.tmps[4]?.getD undef = .int .i64 (j : Int) := (hl 4 (by first | (simp [Op.operands]; done) | simp [Op.operands, Call.operands]) (by rw [HS.out]; decide)).trans A4.out
            clear hl
            go_simp
          -- slot 27
          refine wpFacts_litG (.pointer (some ⟨q, o + j * 4, none⟩)) 6 false 24 rfl (by rw [HO.out]; rfl) (by rw [HS.out]; decide) (fun _ _ h => h) ?_ ?_
          · intro a wq hw hl
            have e25 : a.tmps[25]?.getD undef = .slice (some ⟨q, o, none⟩) l.length c := hl 25 (by first | (simp [Op.operands]; done) | simp [Op.operands, Call.operands]) (by rw [HS.out]; decide)
            have e26 : a.tmps[26]?.getD undef = .int .i64 (j : Int) := hl 26 (by first | (simp [Op.operands]; done) | simp [Op.operands, Call.operands]) (by rw [HS.out]; decide)
            have hlt9 := hlt1
            clear hl
            go_simp
          -- slot 28
          refine wpFacts_litG (.pointer (some ⟨q, o + j * 4, none⟩)) 6 false 24 rfl (by rw [HO.out]; rfl) (by rw [HS.out]; decide) (fun _ _ h => h) ?_ ?_
          · intro a wq hw hl
            have e27 : a.tmps[27]?.getD undef = .pointer (some ⟨q, o + j * 4, none⟩) := hl 27 (by first | (simp [Op.operands]; done) | simp [Op.operands, Call.operands]) (by rw [HS.out]; decide)
            clear hl
            go_simp
          -- slot 29
          refine wpFacts_litG (.int .i64 y.t) 6 false 24 rfl (by rw [HO.out]; rfl) (by rw [HS.out]; decide) (fun _ _ h => h) ?_ ?_
          · intro a wq hw hl
            have e28 : a.tmps[28]?.getD undef = .pointer (some ⟨q, o + j * 4, none⟩) := hl 28 (by first | (simp [Op.operands]; done) | simp [Op.operands, Call.operands]) (by rw [HS.out]; decide)
            have c0 := cell_gb HD0.out (gb_trans HGW.out hw (.inl rfl))
            clear hl
            go_simp
          -- slot 30
          refine wpFacts_litG (.slice (some ⟨q, o, none⟩) l.length c) 6 false 24 rfl (by rw [HO.out]; rfl) (by rw [HS.out]; decide) (fun _ _ h => h) ?_ ?_
          · intro a wq hw hl
            have e0 : a.tmps[0]?.getD undef = .slice (some ⟨q, o, none⟩) l.length c := (hl 0 (by first | (simp [Op.operands]; done) | simp [Op.operands, Call.operands]) (by rw [HS.out]; decide)).trans A0.out
            clear hl
            go_simp
          -- slot 31
          refine wpFacts_litG (.pointer (some ⟨q, o, none⟩)) 6 false 24 rfl (by rw [HO.out]; rfl) (by rw [HS.out]; decide) (fun _ _ h => h) ?_ ?_
          · intro a wq hw hl
            have e30 : a.tmps[30]?.getD undef = .slice (some ⟨q, o, none⟩) l.length c := hl 30 (by first | (simp [Op.operands]; done) | simp [Op.operands, Call.operands]) (by rw [HS.out]; decide)
            have hl09 := HLN.out
            clear hl
            go_simp
          -- slot 32
          refine wpFacts_litG (.pointer (some ⟨q, o, none⟩)) 6 false 24 rfl (by rw [HO.out]; rfl) (by rw [HS.out]; decide) (fun _ _ h => h) ?_ ?_
          · intro a wq hw hl
            have e31 : a.tmps[31]?.getD undef = .pointer (some ⟨q, o, none⟩) := hl 31 (by first | (simp [Op.operands]; done) | simp [Op.operands, Call.operands]) (by rw [HS.out]; decide)
            clear hl
            go_simp
          -- slot 33
          refine wpFacts_litG (.int .i64 t0) 6 false 24 rfl (by rw [HO.out]; rfl) (by rw [HS.out]; decide) (fun _ _ h => h) ?_ ?_
          · intro a wq hw hl
            have e32 : a.tmps[32]?.getD undef = .pointer (some ⟨q, o, none⟩) := hl 32 (by first | (simp [Op.operands]; done) | simp [Op.operands, Call.operands]) (by rw [HS.out]; decide)
            have c0 := cell_gb HE0.out (gb_trans HGW.out hw (.inl rfl))
            clear hl
            go_simp
          -- slot 34
          refine wpFacts_litG (.bool (y.t != t0)) 6 false 24 rfl (by rw [HO.out]; rfl) (by rw [HS.out]; decide) (fun _ _ h => h) ?_ ?_
          · intro a wq hw hl
            have e29 : a.tmps[29]?.getD undef = .int .i64 y.t := hl 29 (by first | (simp [Op.operands]; done) | simp [Op.operands, Call.operands]) (by rw [HS.out]; decide)
            have e33 : a.tmps[33]?.getD undef = .int .i64 t0 := hl 33 (by first | (simp [Op.operands]; done) | simp [Op.operands, Call.operands]) (by rw [HS.out]; decide)
            clear hl
            go_simp
          refine HL.out _ (fun a' w5 hc => ?_)
          have e24 : a'.eval (.tmp 24) = .bool false := hc.fact 24 (by rw [HS.out]; decide)
          have e34 : a'.eval (.tmp 34) = .bool (y.t != t0) := hc.fact 34 (by rw [HS.out]; decide)
          have hg5 := gb_trans HGW.out hc.grown (.inl rfl)
          have hfr := hc.frame [18, 19, 20, 21, 22, 23, 24, 25, 26, 27, 28, 29, 30, 31, 32, 33, 34, 35] (by rw [HO.out]; kernel_rfl)
          rw [hfr]
          clear hfr hc
          rw [HA.out]
          clear HA HO HL HW HS HGW A0 A4
          clear A O W L
          simp only [List.drop_succ_cons, List.drop_zero, List.foldl_cons, List.foldl_nil, Act.put, List.setIfInBounds_toArray, List.set_cons_succ, List.set_cons_zero]
          rw [e24, e34]
          generalize a'.eval (.tmp 18) = v18
          generalize a'.eval (.tmp 19) = v19
          generalize a'.eval (.tmp 20) = v20
          generalize a'.eval (.tmp 21) = v21
          generalize a'.eval (.tmp 22) = v22
          generalize a'.eval (.tmp 23) = v23
          generalize a'.eval (.tmp 25) = v25
          generalize a'.eval (.tmp 26) = v26
          generalize a'.eval (.tmp 27) = v27
          generalize a'.eval (.tmp 28) = v28
          generalize a'.eval (.tmp 29) = v29
          generalize a'.eval (.tmp 30) = v30
          generalize a'.eval (.tmp 31) = v31
          generalize a'.eval (.tmp 32) = v32
          generalize a'.eval (.tmp 33) = v33
          generalize a'.eval (.tmp 35) = v35
          clear e24 e34
          clear a'
          have HG5 := hide (gb_trans HGR.out hg5 (.inl rfl))
          clear hg5
          by_cases ht : y.t = t0
          · have e1 := int_bne_t ht
            have HA1 := hide (show al1 = al by rw [HAL.out, decide_eq_true ht]; simp)
            clear ht HAL
            go_wp2_with fail
            go_roundw
            case rel => exact ⟨j + 1, by go_num, by omega, by rw [HAQ.out, HA1.out], HG5.out⟩
            case measure => simp [intOf]; omega
          · have e1 := int_bne_f ht
            have HA1 := hide (show al1 = false by rw [HAL.out, decide_eq_false ht]; simp)
            clear ht HAL
            go_wp2_with fail
            go_roundw
            case rel => exact ⟨j + 1, by go_num, by omega, by rw [HAQ.out, HA1.out], HG5.out⟩
            case measure => simp [intOf]; omega
        · obtain rfl := Bool.eq_false_iff.2 ha
          have HA1 := hide (show al1 = false by rw [HAL.out]; simp)
          clear ha HAL
          go_wp2_with fail
          refine wp_region_facts' 17 (by kernel_rfl) (by kernel_rfl) ?_
          intro A O W L HA HO HW HL
          simp only [List.take_succ_cons, List.take_zero]
          have HS := hide (show A.tmps.size = 87 by rw [HA.out]; rfl)
          have HGW := hide (show wr.grownBy W none by rw [HW.out]; exact gb_drew (gb_refl wr none))
          have A0 := hide (show A.eval (.tmp 0) = .slice (some ⟨q, o, none⟩) l.length c by rw [HA.out]; rfl)
          have A4 := hide (show A.eval (.tmp 4) = .int .i64 (j : Int) by rw [HA.out]; rfl)
          -- slot 18
          refine wpFacts_lit (.slice (some ⟨q, o, none⟩) l.length c) rfl ?_ ?_
          · intro a wq hw hl
            have e0 : a.tmps[0]?.getD undef = .slice (some ⟨q, o, none⟩) l.length c := (hl 0 (by first | (simp [Op.operands]; done) | simp [Op.operands, Call.operands]) (by rw [HS.out]; decide)).trans A0.out
            clear hl
            go_simp
          -- slot 19
          refine wpFacts_lit (.int .i64 (j : Int)) rfl ?_ ?_
          · intro a wq hw hl
            have e4 : a.tmps[4]?.getD undef = .int .i64 (j : Int) := (hl 4 (by first | (simp [Op.operands]; done) | simp [Op.operands, Call.operands]) (by rw [HS.out]; decide)).trans A4.out
            clear hl
            go_simp
          -- slot 20
          refine wpFacts_lit (.pointer (some ⟨q, o + j * 4, none⟩)) rfl ?_ ?_
          · intro a wq hw hl
            have e18 : a.tmps[18]?.getD undef = .slice (some ⟨q, o, none⟩) l.length c := hl 18 (by first | (simp [Op.operands]; done) | simp [Op.operands, Call.operands]) (by rw [HS.out]; decide)
            have e19 : a.tmps[19]?.getD undef = .int .i64 (j : Int) := hl 19 (by first | (simp [Op.operands]; done) | simp [Op.operands, Call.operands]) (by rw [HS.out]; decide)
            have hlt9 := hlt1
            clear hl
            go_simp
          -- slot 21
          refine wpFacts_lit (.agg #[.int .i64 y.t, .slice xA y.n.length xc, .slice yA y.s.length yc, .slice zA y.l.length zc]) rfl ?_ ?_
          · intro a wq hw hl
            have e20 : a.tmps[20]?.getD undef = .pointer (some ⟨q, o + j * 4, none⟩) := hl 20 (by first | (simp [Op.operands]; done) | simp [Op.operands, Call.operands]) (by rw [HS.out]; decide)
            have c0 := cell_gb HD0.out (gb_trans HGW.out hw (.inl rfl))
            have c1 := cell_gb HD1.out (gb_trans HGW.out hw (.inl rfl))
            have c2 := cell_gb HD2.out (gb_trans HGW.out hw (.inl rfl))
            have c3 := cell_gb HD3.out (gb_trans HGW.out hw (.inl rfl))
            clear hl
            go_simp
          -- slot 22
          refine wpFacts_step (fun vq _ => vq = .bool false) rfl (Lit.up _) ?_ ?_
          · intro a wq hw hl
            have e21 : a.tmps[21]?.getD undef = .agg #[.int .i64 y.t, .slice xA y.n.length xc, .slice yA y.s.length yc, .slice zA y.l.length zc] := hl 21 (by first | (simp [Op.operands]; done) | simp [Op.operands, Call.operands]) (by rw [HS.out]; decide)
            clear hl
            go_simp
            exact gUpon_lit (HAT.out _)
          -- slot 23
          refine wpFacts_lit (.bool true) rfl ?_ ?_
          · intro a wq hw hl
            have e22 : a.tmps[22]?.getD undef = .bool false := hl 22 (by first | (simp [Op.operands]; done) | simp [Op.operands, Call.operands]) (by rw [HS.out]; decide)
            clear hl
            go_simp
          -- slot 24
          refine wpFacts_lit (.bool true) rfl ?_ ?_
          · intro a wq hw hl
            have e23 : a.tmps[23]?.getD undef = .bool true := hl 23 (by first | (simp [Op.operands]; done) | simp [Op.operands, Call.operands]) (by rw [HS.out]; decide)
            clear hl
            go_simp
          -- slot 25
          refine wpFacts_skip 6 false 24 rfl (by rw [HO.out]; rfl) (by rw [HS.out]; decide) (fun _ _ h => h) ?_
          -- slot 26
          refine wpFacts_skip 6 false 24 rfl (by rw [HO.out]; rfl) (by rw [HS.out]; decide) (fun _ _ h => h) ?_
          -- slot 27
          refine wpFacts_skip 6 false 24 rfl (by rw [HO.out]; rfl) (by rw [HS.out]; decide) (fun _ _ h => h) ?_
          -- slot 28
          refine wpFacts_skip 6 false 24 rfl (by rw [HO.out]; rfl) (by rw [HS.out]; decide) (fun _ _ h => h) ?_
          -- slot 29
          refine wpFacts_skip 6 false 24 rfl (by rw [HO.out]; rfl) (by rw [HS.out]; decide) (fun _ _ h => h) ?_
          -- slot 30
          refine wpFacts_skip 6 false 24 rfl (by rw [HO.out]; rfl) (by rw [HS.out]; decide) (fun _ _ h => h) ?_
          -- slot 31
          refine wpFacts_skip 6 false 24 rfl (by rw [HO.out]; rfl) (by rw [HS.out]; decide) (fun _ _ h => h) ?_
          -- slot 32
          refine wpFacts_skip 6 false 24 rfl (by rw [HO.out]; rfl) (by rw [HS.out]; decide) (fun _ _ h => h) ?_
          -- slot 33
          refine wpFacts_skip 6 false 24 rfl (by rw [HO.out]; rfl) (by rw [HS.out]; decide) (fun _ _ h => h) ?_
          -- slot 34
          refine wpFacts_skip 6 false 24 rfl (by rw [HO.out]; rfl) (by rw [HS.out]; decide) (fun _ _ h => h) ?_
          refine HL.out _ (fun a' w5 hc => ?_)
          have e24 : a'.eval (.tmp 24) = .bool true := hc.fact 24 (by rw [HS.out]; decide)
          have e34 : a'.eval (.tmp 34) = undef := hc.fact 34 (by rw [HS.out]; decide)
          have hg5 := gb_trans HGW.out hc.grown (.inl rfl)
          have hfr := hc.frame [18, 19, 20, 21, 22, 23, 24, 25, 26, 27, 28, 29, 30, 31, 32, 33, 34, 35] (by rw [HO.out]; kernel_rfl)
          rw [hfr]
          clear hfr hc
          rw [HA.out]
          clear HA HO HL HW HS HGW A0 A4
          clear A O W L
          simp only [List.drop_succ_cons, List.drop_zero, List.foldl_cons, List.foldl_nil, Act.put, List.setIfInBounds_toArray, List.set_cons_succ, List.set_cons_zero]
          rw [e24, e34]
          generalize a'.eval (.tmp 18) = v18
          generalize a'.eval (.tmp 19) = v19
          generalize a'.eval (.tmp 20) = v20
          generalize a'.eval (.tmp 21) = v21
          generalize a'.eval (.tmp 22) = v22
          generalize a'.eval (.tmp 23) = v23
          generalize a'.eval (.tmp 25) = v25
          generalize a'.eval (.tmp 26) = v26
          generalize a'.eval (.tmp 27) = v27
          generalize a'.eval (.tmp 28) = v28
          generalize a'.eval (.tmp 29) = v29
          generalize a'.eval (.tmp 30) = v30
          generalize a'.eval (.tmp 31) = v31
          generalize a'.eval (.tmp 32) = v32
          generalize a'.eval (.tmp 33) = v33
          generalize a'.eval (.tmp 35) = v35
          clear e24 e34
          clear a'
          have HG5 := hide (gb_trans HGR.out hg5 (.inl rfl))
          clear hg5
          go_wp2_with fail
          go_roundw
          case rel => exact ⟨j + 1, by go_num, by omega, by rw [HAQ.out, HA1.out], HG5.out⟩
          case measure => simp [intOf]; omega
      · have hlt1 : ¬ (j : Int) < (l.length : Int) := by omega
        obtain rfl : j = l.length := by omega
        rw [HUN.out]
        have HGR := hide hgr
        clear hgr HUN HAZ
        have HLC := hide (show decide (0 < l.length) = true from decide_eq_true HL0.out)
        obtain ⟨w5, hw5⟩ : ∃ w5, w5 = wr.alloc (.cells #[.int .i64 0, .slice none 0 0, .slice none 0 0, .slice none 0 0] 26) := ⟨_, rfl⟩
        have hb5 : w5.heap[wr.heap.size]? = some (.cells #[.int .i64 0, .slice none 0 0, .slice none 0 0, .slice none 0 0] 26 (0, 0)) := by rw [hw5]; exact heap_alloc_new wr _
        have HWA5 := hide (show wa.grownBy w5 none by rw [hw5]; exact gb_trans HGR.out (gb_alloc (gb_refl wr none) _) (.inl rfl))
        have HB5 := hide hb5
        have HS5 := hide (show w5.heap.size = wr.heap.size + 1 by rw [hw5]; simp)
        have HLE3 := hide HGR.out.size
        go_upto_region 9 with fail
        rw [HLC.out, ← hw5]
        clear hb5 hw5 HLC
        generalize wr.heap.size = g3 at *
        have HLT3 := hide (show g3 < w5.heap.size by rw [HS5.out]; omega)
        go_wp2_with fail
        go_loopw [6] (fun i wq => ∃ j : Nat, i = .int .i64 (j : Int) ∧ j ≤ l.length ∧ Cl (.mk 0 [] [] l) w5 g3 none 0 none 0 j wq) (fun i _ => l.length - (intOf i).toNat)
        case atStart => exact ⟨0, rfl, Nat.zero_le _, none, 0, [], [], HB5.out, ⟨rfl, .inl ⟨rfl, rfl⟩⟩, ⟨rfl, rfl⟩, List.nodup_nil, by simp, Wrote.refl_ _ _⟩
        case round =>
          obtain ⟨j, rfl, hj, hcl⟩ := hrel
          obtain ⟨L, Lc, xs, f, hb, ho, ha, hnd, hf, hw⟩ := hcl
          have s5 := HWA5.out.size
          have hsa := HSZ.out
          clear s5 hsa
          by_cases hlt : j < l.length
          · have hlt1 : (j : Int) < (l.length : Int) := by omega
            obtain ⟨q', o', xA, xc, yA, yc, zA, zc, hA', hqB, hc4', hvb'⟩ := H.out.at_ hlt
            simp only [Option.some.injEq, Addr.mk.injEq, and_true] at hA'
            obtain ⟨rfl, rfl⟩ := hA'
            obtain ⟨y, hy⟩ : ∃ y, y = l[j] := ⟨_, rfl⟩
            have hc4 : C4 w q (o + j * 4) (.int .i64 y.t) (.slice xA y.n.length xc) (.slice yA y.s.length yc) (.slice zA y.l.length zc) := by subst hy; exact hc4'
            have hvb : VB w B y xA xc yA yc zA zc := by subst hy; exact hvb'
            have hyt : y.tot ≤ 1100000 := by subst hy; exact Nat.le_trans (Vl.tot_mem (List.getElem_mem hlt)) HT.out
            have hwr : wa.grownBy wr none := hw.gb HWA5.out (by simp; exact HLE3.out)
            have hwr' := gb_trans HG.out hwr (.inl rfl)
            obtain ⟨d0, d1, d2, d3⟩ := hc4.gb hwr'
            have p3 : wr.cell? ⟨g3, 3, none⟩ = some (.slice L j Lc) := by rw [blk_cell hb]; rfl
            have HREC := hide (fun w2 (k : wr.grownBy w2 none) => rClone_d y.depth y w2 B xA xc yA yc zA zc (Nat.le_refl _) hyt (Nat.le_trans HBB.out (Nat.le_trans hwr'.size k.size)) (hvb.gb (gb_trans hwr' k (.inl rfl)) HBB.out))
            have HLB : Hid (∀ b, (Value.slice L j Lc).ownBlock = some b → w5.heap.size ≤ b ∧ b < wr.heap.size) := hide (fun b e => ho.lt b e)
            have HOR := hide ho
            have HBR := hide hb
            have HAR := hide ha
            have HNR := hide hnd
            have HFR := hide hf
            have HWR := hide hw
            have HY := hide hy
            have HJL := hide hlt
            obtain ⟨i1, hi1, hiz, his, hib⟩ := info_parts Try.infoV
            have HI1 := hide hi1
            have HIZ := hide hiz
            have HIS := hide his
            have HIB := hide hib
            have HM1 : Hid (j + 1 ≤ maxLen) := hide (by unfold maxLen; omega)
            have HMB : Hid ((j + 1) * 80 ≤ 140737488355328) := hide (by omega)
            clear hc4 hc4' hvb hvb' hwr hwr' hb ho ha hnd hf hw hi1 hiz his hib hy hyt
            go_wp2_with fail
            go_region_law
              (first
              | (go_simp; go_at_call 35; refine (HREC.out _ (gb_drew (gb_refl wr none))).mono ?_; rintro e w6 ⟨aA, ac, bA, bc, cA, cc, f6, rfl, ho6, hn6, hg6⟩; have HO6 := hide ho6; have HN6 := hide hn6; have HG6 := hide hg6; have HGA := hide (gb_trans (gb_drew (gb_refl wr none)) hg6 (.inl rfl)); have HG7 := hide (gb_trans HGA.out (gb_alloc (gb_refl w6 none) (.cells #[.int .i64 y.t, .slice aA y.n.length ac, .slice bA y.s.length bc, .slice cA y.l.length cc] 26)) (.inl rfl)); have p36 := cell_gb p3 HGA.out; have p37 := cell_gb p3 HG7.out; have HOL := hide (HOR.out.kept HG7.out (by cases (Value.slice L j Lc).ownBlock <;> simp)); have HRN := hide (rd_row (heap_alloc_new w6 (.cells #[.int .i64 y.t, .slice aA y.n.length ac, .slice bA y.s.length bc, .slice cA y.l.length cc] 26)) (xs := [.int .i64 y.t, .slice aA y.n.length ac, .slice bA y.s.length bc, .slice cA y.l.length cc]) rfl (by simp)); have HOC := hide (V4_one y.t aA bA cA y.n.length y.s.length y.l.length ac bc cc); have HBS := hide (Nat.le_trans HWR.out.size HG7.out.size); clear ho6 hn6 hg6)
              | (refine step_append_row' (by rfl) (.tmp 46) (.tmp 52) 24 (by rfl) w5.heap.size 26 i1 (.agg #[.int .i64 0, .slice none 0 0, .slice none 0 0, .slice none 0 0]) 4 80 Try.underlying24 HI1.out HIZ.out HIS.out HIB.out rfl (Nat.succ_pos 3) (.slice L j Lc) j (List.flatten xs) (by rfl) HOL.out (w6.alloc (.cells #[.int .i64 y.t, .slice aA y.n.length ac, .slice bA y.s.length bc, .slice cA y.l.length cc] 26)).heap.size (some ⟨w6.heap.size, 0, none⟩) 1 1 [.int .i64 y.t, .slice aA y.n.length ac, .slice bA y.s.length bc, .slice cA y.l.length cc] (by rfl) rfl HRN.out HOC.out HM1.out HMB.out HBS.out ?_; intro v8 w8 ho8 hg8 hb8; obtain ⟨A8, c8, rfl, _⟩ := own_slice ho8; have HO8 := hide ho8; have HG8 := hide hg8; have HLL8 := hide hb8; have hx8 : ∀ b, b < w5.heap.size → w8.heap[b]? = (w6.alloc (.cells #[.int .i64 y.t, .slice aA y.n.length ac, .slice bA y.s.length bc, .slice cA y.l.length cc] 26)).heap[b]? := (fun b h => hg8.block b (Nat.lt_of_lt_of_le h HBS.out) (fun e => by { have h9 := (HLB.out b e.symm).1; omega })); have HH8 := hide ((hx8 g3 HLT3.out).trans ((HG7.out.block g3 (Nat.lt_of_lt_of_le HLT3.out HWR.out.size) (by simp)).trans HBR.out)); have zz := blk_frozen HH8.out 3; have pp3 : w8.cell? ⟨g3, 3, none⟩ = some (.slice L j Lc) := (by { rw [blk_cell HH8.out]; rfl });  clear ho8 hg8 hb8 hx8))
            all_goals
              go_wp2_with fail
              go_roundw
              case rel => exact ⟨j + 1, by go_num, by omega, Cl.step (v := .mk 0 [] [] l) HJL.out HLT3.out HBR.out HOR.out HAR.out HNR.out HFR.out HWR.out (gb_drew (gb_refl wr none)) ((congrArg (fun z => VOw w6 z [.int .i64 y.t, .slice aA y.n.length ac, .slice bA y.s.length bc, .slice cA y.l.length cc] f6) HY.out).mp HO6.out) HN6.out HG6.out HO8.out HG8.out HLL8.out⟩
              case measure => simp [intOf]; omega
          · have hlt1 : ¬ (j : Int) < (l.length : Int) := by omega
            obtain rfl : j = l.length := by omega
            have hall : VOwAll wr l xs f := by
              have h := ha
              rw [show (Vl.mk 0 [] [] l).l = l from rfl, List.take_length] at h
              exact h
            have hwr : wa.grownBy wr none := hw.gb HWA5.out (by simp; exact HLE3.out)
            obtain ⟨fL, o3, r3⟩ := Own.of_row ho
            have hLc : l.length ≤ Lc := by
              rcases ho.2 with ⟨h, h'⟩ | ⟨_, _, _, h, _, _, hc, _⟩
              · omega
              · injection h with h1 h2 h3; omega
            have ndL : fL.Nodup := (New.one (a := w5) (c := wr) r3 o3.len (Nat.le_refl _)).1
            have s5 := HWA5.out.size
            have s6 := hw.size
            have hnew : New wa wr ([] ++ ([] ++ (fL ++ f))) := by
              simp only [List.nil_append]
              refine ⟨List.nodup_append.2 ⟨ndL, hnd, fun x hx y hy e => ?_⟩, fun x hx => ?_⟩
              · subst e
                exact (hf x hy).2 (o3.blk x hx)
              · rcases List.mem_append.1 hx with hx | hx
                · have := r3 x hx; omega
                · have h1 := hf x hx; have h2 := VOwAll.lt _ _ _ hall x hx; omega
            have hrr : wr.heap[w.heap.size]? = some (.cells zero4 26 (0, 0)) := (hwr.block _ (by have := HSZ.out; omega) (by simp)).trans HR.out
            have FIN := hide (NewV.at_put (v := .mk 0 [] [] l) (A1 := none) (A2 := none) (c1 := 0) (c2 := 0) (g := w.heap.size) (c3 := Lc) (Nat.le_refl _) (by have := HSZ.out; omega) HG.out hwr (Nat.le_refl _) Own.nil_ (Nat.le_refl _) Own.nil_ hLc o3 hall hnew)
            obtain ⟨k0, k1, k2, k3⟩ : C4 wr g3 0 (.int .i64 0) (.slice none 0 0) (.slice none 0 0) (.slice L l.length Lc) := ⟨by rw [blk_cell hb]; rfl, by rw [blk_cell hb]; rfl, by rw [blk_cell hb]; rfl, by rw [blk_cell hb]; rfl⟩
            obtain ⟨x0, x1, x2, x3, p0, p1, p2, p3⟩ := four_cells hrr (i := 0) (by decide)
            have z0 := blk_frozen hrr 0
            have z1 := blk_frozen hrr 1
            have z2 := blk_frozen hrr 2
            have z3 := blk_frozen hrr 3
            have HRR := hide hrr
            clear hb ho ha hnd hf hw hall hwr o3 r3 hLc ndL s5 s6 hnew hrr
            go_wp2_with fail
            obtain ⟨m0, m1, m2, m3⟩ := C4.put HRR.out (.int .i64 0) (.slice none 0 0) (.slice none 0 0) (.slice L l.length Lc)
            simp only [put4, Nat.zero_add] at m0 m1 m2 m3
            refine bodyPost_ret (v := .agg #[.int .i64 0, .slice none 0 0, .slice none 0 0, .slice L l.length Lc]) (by simp [results, Try.results78, go_sem, m0, m1, m2, m3]) rfl ?_
            exact FIN.out
end Go.Proofs.Ytfckmkpfhchggaa
