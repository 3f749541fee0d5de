/-
  The document's Join: all its ways.
-/
import Derived.Test.YtkbflmaflokpdaaGreatQQb
import Derived.Test.YtkbflmaflokpdaaGreatQJv
import Derived.Test.YtkbflmaflokpdaaGreatQJp

namespace Go.Proofs.YtkbflmaflokpdaaGreat
open Go.RowKit
attribute [local go_sem ↓] Go.wp_at_zero Go.wp_at_succ

theorem atN_err {k : Int} {w : World} {e : Ending} {w' : World} (h : ErrV k w e w') : AtN emp k w e w' := by
  obtain ⟨rfl, hg⟩ := h
  exact ⟨none, 0, none, 0, none, 0, [], rfl, vow_emp _, New.nil_ _ _, hg⟩
theorem atN_tup {v : Vl} {w : World} {e : Ending} {w' : World} (h : TupV v w e w') : AtN v 0 w e w' := h
set_option maxHeartbeats 32000000 in
set_option maxRecDepth 100000 in
theorem rJoin_any (l : List Vl) (w : World) (B : Nat) (A : Option Addr) (c : Nat) (hty : ∀ x ∈ l, -1000 ≤ x.t) (yv : Vl) (kv : Int) (r1 : 65536 < widS l → yv = emp ∧ kv = 6) (r2 : ¬ 65536 < widS l → l.any vNl = true → yv = emp ∧ kv = 31)
    (r3 : ¬ 65536 < widS l → l.any vNl = false → alkQ l (headK l) l.length = true → yv = .mk (headK l) (l.flatMap Vl.n) (l.flatMap Vl.s) [] ∧ kv = 0)
    (r4 : ¬ 65536 < widS l → l.any vNl = false → alkQ l (headK l) l.length = false → ¬ 32 < (ofV (flX l)).depth → yv = ofV (flX l) ∧ kv = 0) (r5 : ¬ 65536 < widS l → l.any vNl = false → alkQ l (headK l) l.length = false → 32 < (ofV (flX l)).depth → yv = emp ∧ kv = 6)
    (ht5 : Vl.tots l ≤ 500000000) (hft : Vl.tots (flX l) ≤ 1200000000) (hvt : (ofV (flX l)).tot ≤ 1200000000) (ht : Vl.tots l ≤ 1200000000) (hB : B ≤ w.heap.size) (h : RdV w B A l) :
    Calls Tryz.prog 20 #[.slice A l.length c] w (AtN yv kv w) := by
  have l1 : l.length ≤ 1200000000 := Nat.le_trans (Vl.length_le_tots l) ht
  obtain ⟨wa, hwa⟩ : ∃ wa, wa = w.alloc (.cells #[.int .i64 0, .slice none 0 0, .slice none 0 0, .slice none 0 0] 26) := ⟨_, rfl⟩
  have hb : wa.heap[w.heap.size]? = some (.cells #[.int .i64 0, .slice none 0 0, .slice none 0 0, .slice none 0 0] 26 (0, 0)) := by rw [hwa]; exact heap_alloc_new w _
  have hg : w.grownBy wa none := by rw [hwa]; exact gb_alloc (gb_refl w none) _
  have HB := hide hb
  have HG := hide hg
  have HWE := hide hwa
  have HSZ := hide (show wa.heap.size = w.heap.size + 1 by rw [hwa]; simp)
  have HBB := hide hB
  have HT := hide ht
  have H := hide h
  have HL := hide l1
  have HWS := hide (Nat.le_trans (widS_tots l) ht)
  have HTY := hide hty
  have R1 := hide r1
  have R2 := hide r2
  have R3 := hide r3
  have R4 := hide r4
  have R5 := hide r5
  have HFT5 := hide hft
  have HVT5 := hide hvt
  have HT5 := hide ht5
  obtain ⟨k0, hk0⟩ : ∃ k0, k0 = headK l := ⟨_, rfl⟩
  have HK0 := hide hk0
  have hb0 : decide (0 < l.length) = alkQ l k0 0 := (alkQ_zero l k0).symm
  have HB0 := hide hb0
  clear hb hg hwa hB ht h l1 hty hk0 r1 r2 r3 r4 r5 hft hvt ht5
  go_enter Tryz.func20, Tryz.ntmps20
  go_wp2_with fail
  rw [← HWE.out]
  go_loopw [4, 5, 6] (fun n al i wr => ∃ j : Nat, i = .int .i64 (j : Int) ∧ j ≤ l.length ∧ n = .int .i64 (widS (l.take j) : Nat) ∧ al = .bool (alkQ l k0 j) ∧ wa.grownBy wr none) (fun _ _ i _ => l.length - (intOf i).toNat)
  case atStart => exact ⟨0, rfl, Nat.zero_le _, rfl, by first | rfl | rw [← HB0.out], gb_refl wa none⟩
  case round =>
    obtain ⟨j, rfl, hj, rfl, rfl, hgr⟩ := hrel
    by_cases hlt : j < l.length
    · have hlt1 : (j : Int) < (l.length : Int) := by omega
      have hl0 : 0 < l.length := by omega
      obtain ⟨q, o, rA, rc, sA, sc, tA, tc, hA, hqB0, hc40, hvb0⟩ := H.out.first hl0
      obtain ⟨q', o', xA, xc, yA, yc, zA, zc, hA', hqB, hc4', hvb'⟩ := H.out.at_ hlt
      subst hA
      simp only [Option.some.injEq, Addr.mk.injEq, and_true] at hA'
      obtain ⟨rfl, rfl⟩ := hA'
      have hgw := gb_trans HG.out hgr (.inl rfl)
      obtain ⟨y, hy⟩ : ∃ y, y = l[j] := ⟨_, rfl⟩
      obtain ⟨z, hz⟩ : ∃ z, z = l[0] := ⟨_, rfl⟩
      have hDR : C4 wr q (o + j * 4) (.int .i64 y.t) (.slice xA y.n.length xc) (.slice yA y.s.length yc) (.slice zA y.l.length zc) := by subst hy; exact hc4'.gb hgw
      have hER : C4 wr q o (.int .i64 z.t) (.slice rA z.n.length rc) (.slice sA z.s.length sc) (.slice tA z.l.length tc) := by subst hz; exact hc40.gb hgw
      have hvr : VB wr B y xA xc yA yc zA zc := by subst hy; exact hvb'.gb hgw HBB.out
      have HDR := hide hDR
      have HER := hide hER
      obtain ⟨d0, d1, d2, d3⟩ := hDR
      have hal : alkQ l k0 (j + 1) = (alkQ l k0 j && (rFlat y.t && (rkd y.t == k0))) := by subst hy; exact alkQ_succ hlt
      have hkz : rkd z.t = k0 := by rw [HK0.out, headK_at hl0, hz]
      have hW := widS_take l j hlt
      rw [← hy] at hW
      have hle := widS_le l (j + 1)
      have h6 : IntKind.i64.wrap ((j : Int) + 1) = ((j + 1 : Nat) : Int) := by rw [IntKind.wrap_i64]; have := HL.out; omega
      have HFL := hide (fun w2 => rFlat_any y.t (.slice xA y.n.length xc) (.slice yA y.s.length yc) (.slice zA y.l.length zc) w2)
      have HKY := hide (fun w2 => rKind_any y.t (HTY.out y (by rw [hy]; exact List.getElem_mem hlt)) (.slice xA y.n.length xc) (.slice yA y.s.length yc) (.slice zA y.l.length zc) w2)
      have hkzc := fun w2 => rKind_any z.t (HTY.out z (by rw [hz]; exact List.getElem_mem hl0)) (.slice rA z.n.length rc) (.slice sA z.s.length sc) (.slice tA z.l.length tc) w2
      rw [hkz] at hkzc
      have HKZ := hide hkzc
      have HPA := hide (fun w2 => part_any y (.slice xA y.n.length xc) (.slice yA y.s.length yc) (.slice zA y.l.length zc) w2)
      have HCT := hide (fun w2 (hg : wr.grownBy w2 none) => rCount_any y w2 B xA xc yA yc zA zc (by rw [hy]; exact Nat.le_trans (Vl.tot_mem (List.getElem_mem hlt)) HT.out) (by have := HBB.out; have := hgw.size; have := hg.size; omega) (hvr.gb hg (by have := HBB.out; have := hgw.size; omega)))
      have HAL := hide hal
      have HGR := hide hgr
      have HLT := hide hlt
      have HLT1 := hide hlt1
      have HLN : Hid (l ≠ []) := hide (by intro e; rw [e] at hl0; exact Nat.lt_irrefl 0 hl0)
      have hwy : widV y = if (kdV y == y.t) = true then y.count else 1 := by unfold widV; simp
      have hWS := HWS.out
      clear hy hz hc4' hc40 hvb' hvb0 hal hgw hgr hER hvr hkz hkzc hj hqB hqB0
      generalize alkQ l k0 j = al at *
      generalize hq1 : alkQ l k0 (j + 1) = al1 at *
      have HAQ := hide hq1
      clear hq1
      generalize widS (l.take j) = s0 at *
      obtain ⟨s1, hs1⟩ : ∃ s1, s1 = widS (l.take (j + 1)) := ⟨_, rfl⟩
      rw [← hs1] at hW hle
      have HS1 := hide hs1
      clear hs1
      generalize rFlat y.t = rf at HFL HAL
      generalize rkd y.t = ky at HKY HAL
      generalize (kdV y == y.t) = pa at HPA hwy
      cases hpa : pa
      · rw [hpa] at HPA hwy
        rw [if_neg (by simp)] at hwy
        have h7 : IntKind.i64.wrap ((s0 : Int) + 1) = (s1 : Int) := by rw [IntKind.wrap_i64, hW, hwy]; omega
        clear hpa hwy hW hle hWS HCT
        cases ha : rf
        · rw [ha] at HFL HAL
          have HA1 := hide (show al1 = false by rw [HAL.out]; simp)
          clear ha HAL
          go_wp2_with (go_at_call 29; refine (HPA.out _).mono ?_; rintro e w1 ⟨rfl, hg1⟩; have HG1 := hide hg1; clear hg1)
          have HD := hide (HDR.out.gb HG1.out)
          have HE := hide (HER.out.gb HG1.out)
          refine wp_region_facts' 17 (by kernel_rfl) (by kernel_rfl) ?_
          intro A O W L HA HO HW HL
          simp only [List.take_succ_cons, List.take_zero]
          have HS := hide (show A.tmps.size = 159 by rw [HA.out]; rfl)
          have HGW := hide (show w1.grownBy W none by rw [HW.out]; exact gb_drew (gb_refl w1 none))
          have A0 := hide (show A.eval (.tmp 0) = .slice (some ⟨q, o, none⟩) l.length c by rw [HA.out]; rfl)
          have A6 := hide (show A.eval (.tmp 6) = .int .i64 (j : Int) by rw [HA.out]; rfl)
          -- slot 39
          refine wpFacts_lit (.slice (some ⟨q, o, none⟩) l.length c) rfl ?_ ?_
          · intro a wq hw hl
            have e0 : a.tmps[0]?.getD undef = .slice (some ⟨q, o, none⟩) l.length c := (hl 0 (by first | (simp [Op.operands]; done) | simp [Op.operands, Call.operands]) (by rw [HS.out]; decide)).trans A0.out
            clear hl
            go_simp
          -- slot 40
          refine wpFacts_lit (.int .i64 (j : Int)) rfl ?_ ?_
          · intro a wq hw hl
            have e6 : a.tmps[6]?.getD undef = .int .i64 (j : Int) := (hl 6 (by first | (simp [Op.operands]; done) | simp [Op.operands, Call.operands]) (by rw [HS.out]; decide)).trans A6.out
            clear hl
            go_simp
          -- slot 41
          refine wpFacts_lit (.pointer (some ⟨q, o + j * 4, none⟩)) rfl ?_ ?_
          · intro a wq hw hl
            have e39 : a.tmps[39]?.getD undef = .slice (some ⟨q, o, none⟩) l.length c := hl 39 (by first | (simp [Op.operands]; done) | simp [Op.operands, Call.operands]) (by rw [HS.out]; decide)
            have e40 : a.tmps[40]?.getD undef = .int .i64 (j : Int) := hl 40 (by first | (simp [Op.operands]; done) | simp [Op.operands, Call.operands]) (by rw [HS.out]; decide)
            have hlt9 := HLT1.out
            clear hl
            go_simp
          -- slot 42
          refine wpFacts_lit (.agg #[.int .i64 y.t, .slice xA y.n.length xc, .slice yA y.s.length yc, .slice zA y.l.length zc]) rfl ?_ ?_
          · intro a wq hw hl
            have e41 : a.tmps[41]?.getD undef = .pointer (some ⟨q, o + j * 4, none⟩) := hl 41 (by first | (simp [Op.operands]; done) | simp [Op.operands, Call.operands]) (by rw [HS.out]; decide)
            have c0 := cell_gb HD.out.c0 (gb_trans HGW.out hw (.inl rfl))
            have c1 := cell_gb HD.out.c1 (gb_trans HGW.out hw (.inl rfl))
            have c2 := cell_gb HD.out.c2 (gb_trans HGW.out hw (.inl rfl))
            have c3 := cell_gb HD.out.c3 (gb_trans HGW.out hw (.inl rfl))
            clear hl
            go_simp
          -- slot 43
          refine wpFacts_step (fun vq _ => vq = .bool false) rfl (Lit.up _) ?_ ?_
          · intro a wq hw hl
            have e42 : a.tmps[42]?.getD undef = .agg #[.int .i64 y.t, .slice xA y.n.length xc, .slice yA y.s.length yc, .slice zA y.l.length zc] := hl 42 (by first | (simp [Op.operands]; done) | simp [Op.operands, Call.operands]) (by rw [HS.out]; decide)
            clear hl
            go_simp
            exact gUpon_lit (HFL.out _)
          -- slot 44
          refine wpFacts_lit (.bool true) rfl ?_ ?_
          · intro a wq hw hl
            have e43 : a.tmps[43]?.getD undef = .bool false := hl 43 (by first | (simp [Op.operands]; done) | simp [Op.operands, Call.operands]) (by rw [HS.out]; decide)
            clear hl
            go_simp
          -- slot 45
          refine wpFacts_lit (.bool true) rfl ?_ ?_
          · intro a wq hw hl
            have e44 : a.tmps[44]?.getD undef = .bool true := hl 44 (by first | (simp [Op.operands]; done) | simp [Op.operands, Call.operands]) (by rw [HS.out]; decide)
            clear hl
            go_simp
          -- slot 46
          refine wpFacts_skip 6 false 45 rfl (by rw [HO.out]; rfl) (by rw [HS.out]; decide) (fun _ _ h => h) ?_
          -- slot 47
          refine wpFacts_skip 6 false 45 rfl (by rw [HO.out]; rfl) (by rw [HS.out]; decide) (fun _ _ h => h) ?_
          -- slot 48
          refine wpFacts_skip 6 false 45 rfl (by rw [HO.out]; rfl) (by rw [HS.out]; decide) (fun _ _ h => h) ?_
          -- slot 49
          refine wpFacts_skip 6 false 45 rfl (by rw [HO.out]; rfl) (by rw [HS.out]; decide) (fun _ _ h => h) ?_
          -- slot 50
          refine wpFacts_skip 6 false 45 rfl (by rw [HO.out]; rfl) (by rw [HS.out]; decide) (fun _ _ h => h) ?_
          -- slot 51
          refine wpFacts_skip 6 false 45 rfl (by rw [HO.out]; rfl) (by rw [HS.out]; decide) (fun _ _ h => h) ?_
          -- slot 52
          refine wpFacts_skip 6 false 45 rfl (by rw [HO.out]; rfl) (by rw [HS.out]; decide) (fun _ _ h => h) ?_
          -- slot 53
          refine wpFacts_skip 6 false 45 rfl (by rw [HO.out]; rfl) (by rw [HS.out]; decide) (fun _ _ h => h) ?_
          -- slot 54
          refine wpFacts_skip 6 false 45 rfl (by rw [HO.out]; rfl) (by rw [HS.out]; decide) (fun _ _ h => h) ?_
          -- slot 55
          refine wpFacts_skip 6 false 45 rfl (by rw [HO.out]; rfl) (by rw [HS.out]; decide) (fun _ _ h => h) ?_
          refine HL.out _ (fun a' w5 hc => ?_)
          have e45 : a'.eval (.tmp 45) = .bool true := hc.fact 45 (by rw [HS.out]; decide)
          have e55 : a'.eval (.tmp 55) = undef := hc.fact 55 (by rw [HS.out]; decide)
          have hg5 := gb_trans HGW.out hc.grown (.inl rfl)
          have hfr := hc.frame [39, 40, 41, 42, 43, 44, 45, 46, 47, 48, 49, 50, 51, 52, 53, 54, 55, 56] (by rw [HO.out]; kernel_rfl)
          rw [hfr]
          clear hfr hc
          rw [HA.out]
          clear HA HO HL HW HS HGW A0 A6
          clear A O W L
          simp only [List.drop_succ_cons, List.drop_zero, List.foldl_cons, List.foldl_nil, Act.put, List.setIfInBounds_toArray, List.set_cons_succ, List.set_cons_zero]
          rw [e45, e55]
          generalize a'.eval (.tmp 39) = v39
          generalize a'.eval (.tmp 40) = v40
          generalize a'.eval (.tmp 41) = v41
          generalize a'.eval (.tmp 42) = v42
          generalize a'.eval (.tmp 43) = v43
          generalize a'.eval (.tmp 44) = v44
          generalize a'.eval (.tmp 46) = v46
          generalize a'.eval (.tmp 47) = v47
          generalize a'.eval (.tmp 48) = v48
          generalize a'.eval (.tmp 49) = v49
          generalize a'.eval (.tmp 50) = v50
          generalize a'.eval (.tmp 51) = v51
          generalize a'.eval (.tmp 52) = v52
          generalize a'.eval (.tmp 53) = v53
          generalize a'.eval (.tmp 54) = v54
          generalize a'.eval (.tmp 56) = v56
          clear e45 e55
          clear a'
          have HG5 := hide (gb_trans HGR.out (gb_trans HG1.out hg5 (.inl rfl)) (.inl rfl))
          clear hg5
          go_wp2_with fail
          go_roundw
          case rel => exact ⟨j + 1, by go_num, by have := HLT.out; omega, by rw [← HS1.out], by rw [HAQ.out, HA1.out], HG5.out⟩
          case measure => have := HLT.out; simp [intOf]; omega
        · rw [ha] at HFL HAL
          clear ha
          go_wp2_with (go_at_call 29; refine (HPA.out _).mono ?_; rintro e w1 ⟨rfl, hg1⟩; have HG1 := hide hg1; clear hg1)
          have HD := hide (HDR.out.gb HG1.out)
          have HE := hide (HER.out.gb HG1.out)
          refine wp_region_facts' 17 (by kernel_rfl) (by kernel_rfl) ?_
          intro A O W L HA HO HW HL
          simp only [List.take_succ_cons, List.take_zero]
          have HS := hide (show A.tmps.size = 159 by rw [HA.out]; rfl)
          have HGW := hide (show w1.grownBy W none by rw [HW.out]; exact gb_drew (gb_refl w1 none))
          have A0 := hide (show A.eval (.tmp 0) = .slice (some ⟨q, o, none⟩) l.length c by rw [HA.out]; rfl)
          have A6 := hide (show A.eval (.tmp 6) = .int .i64 (j : Int) by rw [HA.out]; rfl)
          -- slot 39
          refine wpFacts_lit (.slice (some ⟨q, o, none⟩) l.length c) rfl ?_ ?_
          · intro a wq hw hl
            have e0 : a.tmps[0]?.getD undef = .slice (some ⟨q, o, none⟩) l.length c := (hl 0 (by first | (simp [Op.operands]; done) | simp [Op.operands, Call.operands]) (by rw [HS.out]; decide)).trans A0.out
            clear hl
            go_simp
          -- slot 40
          refine wpFacts_lit (.int .i64 (j : Int)) rfl ?_ ?_
          · intro a wq hw hl
            have e6 : a.tmps[6]?.getD undef = .int .i64 (j : Int) := (hl 6 (by first | (simp [Op.operands]; done) | simp [Op.operands, Call.operands]) (by rw [HS.out]; decide)).trans A6.out
            clear hl
            go_simp
          -- slot 41
          refine wpFacts_lit (.pointer (some ⟨q, o + j * 4, none⟩)) rfl ?_ ?_
          · intro a wq hw hl
            have e39 : a.tmps[39]?.getD undef = .slice (some ⟨q, o, none⟩) l.length c := hl 39 (by first | (simp [Op.operands]; done) | simp [Op.operands, Call.operands]) (by rw [HS.out]; decide)
            have e40 : a.tmps[40]?.getD undef = .int .i64 (j : Int) := hl 40 (by first | (simp [Op.operands]; done) | simp [Op.operands, Call.operands]) (by rw [HS.out]; decide)
            have hlt9 := HLT1.out
            clear hl
            go_simp
          -- slot 42
          refine wpFacts_lit (.agg #[.int .i64 y.t, .slice xA y.n.length xc, .slice yA y.s.length yc, .slice zA y.l.length zc]) rfl ?_ ?_
          · intro a wq hw hl
            have e41 : a.tmps[41]?.getD undef = .pointer (some ⟨q, o + j * 4, none⟩) := hl 41 (by first | (simp [Op.operands]; done) | simp [Op.operands, Call.operands]) (by rw [HS.out]; decide)
            have c0 := cell_gb HD.out.c0 (gb_trans HGW.out hw (.inl rfl))
            have c1 := cell_gb HD.out.c1 (gb_trans HGW.out hw (.inl rfl))
            have c2 := cell_gb HD.out.c2 (gb_trans HGW.out hw (.inl rfl))
            have c3 := cell_gb HD.out.c3 (gb_trans HGW.out hw (.inl rfl))
            clear hl
            go_simp
          -- slot 43
          refine wpFacts_step (fun vq _ => vq = .bool true) rfl (Lit.up _) ?_ ?_
          · intro a wq hw hl
            have e42 : a.tmps[42]?.getD undef = .agg #[.int .i64 y.t, .slice xA y.n.length xc, .slice yA y.s.length yc, .slice zA y.l.length zc] := hl 42 (by first | (simp [Op.operands]; done) | simp [Op.operands, Call.operands]) (by rw [HS.out]; decide)
            clear hl
            go_simp
            exact gUpon_lit (HFL.out _)
          -- slot 44
          refine wpFacts_lit (.bool false) rfl ?_ ?_
          · intro a wq hw hl
            have e43 : a.tmps[43]?.getD undef = .bool true := hl 43 (by first | (simp [Op.operands]; done) | simp [Op.operands, Call.operands]) (by rw [HS.out]; decide)
            clear hl
            go_simp
          -- slot 45
          refine wpFacts_lit (.bool false) rfl ?_ ?_
          · intro a wq hw hl
            have e44 : a.tmps[44]?.getD undef = .bool false := hl 44 (by first | (simp [Op.operands]; done) | simp [Op.operands, Call.operands]) (by rw [HS.out]; decide)
            clear hl
            go_simp
          -- slot 46
          refine wpFacts_litG (.slice (some ⟨q, o, none⟩) l.length c) 6 false 45 rfl (by rw [HO.out]; rfl) (by rw [HS.out]; decide) (fun _ _ h => h) ?_ ?_
          · intro a wq hw hl
            have e0 : a.tmps[0]?.getD undef = .slice (some ⟨q, o, none⟩) l.length c := (hl 0 (by first | (simp [Op.operands]; done) | simp [Op.operands, Call.operands]) (by rw [HS.out]; decide)).trans A0.out
            clear hl
            go_simp
          -- slot 47
          refine wpFacts_litG (.int .i64 (j : Int)) 6 false 45 rfl (by rw [HO.out]; rfl) (by rw [HS.out]; decide) (fun _ _ h => h) ?_ ?_
          · intro a wq hw hl
            have e6 : a.tmps[6]?.getD undef = .int .i64 (j : Int) := (hl 6 (by first | (simp [Op.operands]; done) | simp [Op.operands, Call.operands]) (by rw [HS.out]; decide)).trans A6.out
            clear hl
            go_simp
          -- slot 48
          refine wpFacts_litG (.pointer (some ⟨q, o + j * 4, none⟩)) 6 false 45 rfl (by rw [HO.out]; rfl) (by rw [HS.out]; decide) (fun _ _ h => h) ?_ ?_
          · intro a wq hw hl
            have e46 : a.tmps[46]?.getD undef = .slice (some ⟨q, o, none⟩) l.length c := hl 46 (by first | (simp [Op.operands]; done) | simp [Op.operands, Call.operands]) (by rw [HS.out]; decide)
            have e47 : a.tmps[47]?.getD undef = .int .i64 (j : Int) := hl 47 (by first | (simp [Op.operands]; done) | simp [Op.operands, Call.operands]) (by rw [HS.out]; decide)
            have hlt9 := HLT1.out
            clear hl
            go_simp
          -- slot 49
          refine wpFacts_litG (.agg #[.int .i64 y.t, .slice xA y.n.length xc, .slice yA y.s.length yc, .slice zA y.l.length zc]) 6 false 45 rfl (by rw [HO.out]; rfl) (by rw [HS.out]; decide) (fun _ _ h => h) ?_ ?_
          · intro a wq hw hl
            have e48 : a.tmps[48]?.getD undef = .pointer (some ⟨q, o + j * 4, none⟩) := hl 48 (by first | (simp [Op.operands]; done) | simp [Op.operands, Call.operands]) (by rw [HS.out]; decide)
            have c0 := cell_gb HD.out.c0 (gb_trans HGW.out hw (.inl rfl))
            have c1 := cell_gb HD.out.c1 (gb_trans HGW.out hw (.inl rfl))
            have c2 := cell_gb HD.out.c2 (gb_trans HGW.out hw (.inl rfl))
            have c3 := cell_gb HD.out.c3 (gb_trans HGW.out hw (.inl rfl))
            clear hl
            go_simp
          -- slot 50
          refine wpFacts_stepG (fun vq _ => vq = .int .i64 ky) 6 false 45 rfl (by rw [HO.out]; rfl) (by rw [HS.out]; decide) (fun _ _ h => h) (Lit.up _) ?_ ?_
          · intro a wq hw hl
            have e49 : a.tmps[49]?.getD undef = .agg #[.int .i64 y.t, .slice xA y.n.length xc, .slice yA y.s.length yc, .slice zA y.l.length zc] := hl 49 (by first | (simp [Op.operands]; done) | simp [Op.operands, Call.operands]) (by rw [HS.out]; decide)
            clear hl
            go_simp
            exact gUpon_lit (HKY.out _)
          -- slot 51
          refine wpFacts_litG (.slice (some ⟨q, o, none⟩) l.length c) 6 false 45 rfl (by rw [HO.out]; rfl) (by rw [HS.out]; decide) (fun _ _ h => h) ?_ ?_
          · intro a wq hw hl
            have e0 : a.tmps[0]?.getD undef = .slice (some ⟨q, o, none⟩) l.length c := (hl 0 (by first | (simp [Op.operands]; done) | simp [Op.operands, Call.operands]) (by rw [HS.out]; decide)).trans A0.out
            clear hl
            go_simp
          -- slot 52
          refine wpFacts_litG (.pointer (some ⟨q, o, none⟩)) 6 false 45 rfl (by rw [HO.out]; rfl) (by rw [HS.out]; decide) (fun _ _ h => h) ?_ ?_
          · intro a wq hw hl
            have e51 : a.tmps[51]?.getD undef = .slice (some ⟨q, o, none⟩) l.length c := hl 51 (by first | (simp [Op.operands]; done) | simp [Op.operands, Call.operands]) (by rw [HS.out]; decide)
            have hl09 := HLN.out
            clear hl
            go_simp
          -- slot 53
          refine wpFacts_litG (.agg #[.int .i64 z.t, .slice rA z.n.length rc, .slice sA z.s.length sc, .slice tA z.l.length tc]) 6 false 45 rfl (by rw [HO.out]; rfl) (by rw [HS.out]; decide) (fun _ _ h => h) ?_ ?_
          · intro a wq hw hl
            have e52 : a.tmps[52]?.getD undef = .pointer (some ⟨q, o, none⟩) := hl 52 (by first | (simp [Op.operands]; done) | simp [Op.operands, Call.operands]) (by rw [HS.out]; decide)
            have c0 := cell_gb HE.out.c0 (gb_trans HGW.out hw (.inl rfl))
            have c1 := cell_gb HE.out.c1 (gb_trans HGW.out hw (.inl rfl))
            have c2 := cell_gb HE.out.c2 (gb_trans HGW.out hw (.inl rfl))
            have c3 := cell_gb HE.out.c3 (gb_trans HGW.out hw (.inl rfl))
            clear hl
            go_simp
          -- slot 54
          refine wpFacts_stepG (fun vq _ => vq = .int .i64 k0) 6 false 45 rfl (by rw [HO.out]; rfl) (by rw [HS.out]; decide) (fun _ _ h => h) (Lit.up _) ?_ ?_
          · intro a wq hw hl
            have e53 : a.tmps[53]?.getD undef = .agg #[.int .i64 z.t, .slice rA z.n.length rc, .slice sA z.s.length sc, .slice tA z.l.length tc] := hl 53 (by first | (simp [Op.operands]; done) | simp [Op.operands, Call.operands]) (by rw [HS.out]; decide)
            clear hl
            go_simp
            exact gUpon_lit (HKZ.out _)
          -- slot 55
          refine wpFacts_litG (.bool (ky != k0)) 6 false 45 rfl (by rw [HO.out]; rfl) (by rw [HS.out]; decide) (fun _ _ h => h) ?_ ?_
          · intro a wq hw hl
            have e50 : a.tmps[50]?.getD undef = .int .i64 ky := hl 50 (by first | (simp [Op.operands]; done) | simp [Op.operands, Call.operands]) (by rw [HS.out]; decide)
            have e54 : a.tmps[54]?.getD undef = .int .i64 k0 := hl 54 (by first | (simp [Op.operands]; done) | simp [Op.operands, Call.operands]) (by rw [HS.out]; decide)
            clear hl
            go_simp
          refine HL.out _ (fun a' w5 hc => ?_)
          have e45 : a'.eval (.tmp 45) = .bool false := hc.fact 45 (by rw [HS.out]; decide)
          have e55 : a'.eval (.tmp 55) = .bool (ky != k0) := hc.fact 55 (by rw [HS.out]; decide)
          have hg5 := gb_trans HGW.out hc.grown (.inl rfl)
          have hfr := hc.frame [39, 40, 41, 42, 43, 44, 45, 46, 47, 48, 49, 50, 51, 52, 53, 54, 55, 56] (by rw [HO.out]; kernel_rfl)
          rw [hfr]
          clear hfr hc
          rw [HA.out]
          clear HA HO HL HW HS HGW A0 A6
          clear A O W L
          simp only [List.drop_succ_cons, List.drop_zero, List.foldl_cons, List.foldl_nil, Act.put, List.setIfInBounds_toArray, List.set_cons_succ, List.set_cons_zero]
          rw [e45, e55]
          generalize a'.eval (.tmp 39) = v39
          generalize a'.eval (.tmp 40) = v40
          generalize a'.eval (.tmp 41) = v41
          generalize a'.eval (.tmp 42) = v42
          generalize a'.eval (.tmp 43) = v43
          generalize a'.eval (.tmp 44) = v44
          generalize a'.eval (.tmp 46) = v46
          generalize a'.eval (.tmp 47) = v47
          generalize a'.eval (.tmp 48) = v48
          generalize a'.eval (.tmp 49) = v49
          generalize a'.eval (.tmp 50) = v50
          generalize a'.eval (.tmp 51) = v51
          generalize a'.eval (.tmp 52) = v52
          generalize a'.eval (.tmp 53) = v53
          generalize a'.eval (.tmp 54) = v54
          generalize a'.eval (.tmp 56) = v56
          clear e45 e55
          clear a'
          have HG5 := hide (gb_trans HGR.out (gb_trans HG1.out hg5 (.inl rfl)) (.inl rfl))
          clear hg5
          by_cases ht : ky = k0
          · have e1 := int_bne_t ht
            have HA1 := hide (show al1 = al by rw [HAL.out, beq_iff_eq.2 ht]; simp)
            clear ht HAL
            go_wp2_with fail
            go_roundw
            case rel => exact ⟨j + 1, by go_num, by have := HLT.out; omega, by rw [← HS1.out], by rw [HAQ.out, HA1.out], HG5.out⟩
            case measure => have := HLT.out; simp [intOf]; omega
          · have e1 := int_bne_f ht
            have HA1 := hide (show al1 = false by rw [HAL.out, beq_eq_false_iff_ne.2 ht]; simp)
            clear ht HAL
            go_wp2_with fail
            go_roundw
            case rel => exact ⟨j + 1, by go_num, by have := HLT.out; omega, by rw [← HS1.out], by rw [HAQ.out, HA1.out], HG5.out⟩
            case measure => have := HLT.out; simp [intOf]; omega
      · rw [hpa] at HPA hwy
        rw [if_pos rfl] at hwy
        have h7 : IntKind.i64.wrap ((s0 : Int) + (y.count : Int)) = (s1 : Int) := by rw [IntKind.wrap_i64, hW, hwy]; omega
        clear hpa hwy hW hle hWS
        generalize y.count = cn at *
        cases ha : rf
        · rw [ha] at HFL HAL
          have HA1 := hide (show al1 = false by rw [HAL.out]; simp)
          clear ha HAL
          go_wp2_with (first
            | (go_at_call 29; refine (HPA.out _).mono ?_; rintro e w0 ⟨rfl, hg0⟩; have HG0 := hide hg0; clear d0 d1 d2 d3; obtain ⟨d0, d1, d2, d3⟩ := HDR.out.gb hg0; clear hg0)
            | (go_at_call 30; refine (HCT.out _ HG0.out).mono ?_; rintro e w1 ⟨rfl, hg1⟩; have HG1 := hide (gb_trans HG0.out hg1 (.inl rfl)); clear hg1))
          have HD := hide (HDR.out.gb HG1.out)
          have HE := hide (HER.out.gb HG1.out)
          refine wp_region_facts' 17 (by kernel_rfl) (by kernel_rfl) ?_
          intro A O W L HA HO HW HL
          simp only [List.take_succ_cons, List.take_zero]
          have HS := hide (show A.tmps.size = 159 by rw [HA.out]; rfl)
          have HGW := hide (show w1.grownBy W none by rw [HW.out]; exact gb_drew (gb_refl w1 none))
          have A0 := hide (show A.eval (.tmp 0) = .slice (some ⟨q, o, none⟩) l.length c by rw [HA.out]; rfl)
          have A6 := hide (show A.eval (.tmp 6) = .int .i64 (j : Int) by rw [HA.out]; rfl)
          -- slot 39
          refine wpFacts_lit (.slice (some ⟨q, o, none⟩) l.length c) rfl ?_ ?_
          · intro a wq hw hl
            have e0 : a.tmps[0]?.getD undef = .slice (some ⟨q, o, none⟩) l.length c := (hl 0 (by first | (simp [Op.operands]; done) | simp [Op.operands, Call.operands]) (by rw [HS.out]; decide)).trans A0.out
            clear hl
            go_simp
          -- slot 40
          refine wpFacts_lit (.int .i64 (j : Int)) rfl ?_ ?_
          · intro a wq hw hl
            have e6 : a.tmps[6]?.getD undef = .int .i64 (j : Int) := (hl 6 (by first | (simp [Op.operands]; done) | simp [Op.operands, Call.operands]) (by rw [HS.out]; decide)).trans A6.out
            clear hl
            go_simp
          -- slot 41
          refine wpFacts_lit (.pointer (some ⟨q, o + j * 4, none⟩)) rfl ?_ ?_
          · intro a wq hw hl
            have e39 : a.tmps[39]?.getD undef = .slice (some ⟨q, o, none⟩) l.length c := hl 39 (by first | (simp [Op.operands]; done) | simp [Op.operands, Call.operands]) (by rw [HS.out]; decide)
            have e40 : a.tmps[40]?.getD undef = .int .i64 (j : Int) := hl 40 (by first | (simp [Op.operands]; done) | simp [Op.operands, Call.operands]) (by rw [HS.out]; decide)
            have hlt9 := HLT1.out
            clear hl
            go_simp
          -- slot 42
          refine wpFacts_lit (.agg #[.int .i64 y.t, .slice xA y.n.length xc, .slice yA y.s.length yc, .slice zA y.l.length zc]) rfl ?_ ?_
          · intro a wq hw hl
            have e41 : a.tmps[41]?.getD undef = .pointer (some ⟨q, o + j * 4, none⟩) := hl 41 (by first | (simp [Op.operands]; done) | simp [Op.operands, Call.operands]) (by rw [HS.out]; decide)
            have c0 := cell_gb HD.out.c0 (gb_trans HGW.out hw (.inl rfl))
            have c1 := cell_gb HD.out.c1 (gb_trans HGW.out hw (.inl rfl))
            have c2 := cell_gb HD.out.c2 (gb_trans HGW.out hw (.inl rfl))
            have c3 := cell_gb HD.out.c3 (gb_trans HGW.out hw (.inl rfl))
            clear hl
            go_simp
          -- slot 43
          refine wpFacts_step (fun vq _ => vq = .bool false) rfl (Lit.up _) ?_ ?_
          · intro a wq hw hl
            have e42 : a.tmps[42]?.getD undef = .agg #[.int .i64 y.t, .slice xA y.n.length xc, .slice yA y.s.length yc, .slice zA y.l.length zc] := hl 42 (by first | (simp [Op.operands]; done) | simp [Op.operands, Call.operands]) (by rw [HS.out]; decide)
            clear hl
            go_simp
            exact gUpon_lit (HFL.out _)
          -- slot 44
          refine wpFacts_lit (.bool true) rfl ?_ ?_
          · intro a wq hw hl
            have e43 : a.tmps[43]?.getD undef = .bool false := hl 43 (by first | (simp [Op.operands]; done) | simp [Op.operands, Call.operands]) (by rw [HS.out]; decide)
            clear hl
            go_simp
          -- slot 45
          refine wpFacts_lit (.bool true) rfl ?_ ?_
          · intro a wq hw hl
            have e44 : a.tmps[44]?.getD undef = .bool true := hl 44 (by first | (simp [Op.operands]; done) | simp [Op.operands, Call.operands]) (by rw [HS.out]; decide)
            clear hl
            go_simp
          -- slot 46
          refine wpFacts_skip 6 false 45 rfl (by rw [HO.out]; rfl) (by rw [HS.out]; decide) (fun _ _ h => h) ?_
          -- slot 47
          refine wpFacts_skip 6 false 45 rfl (by rw [HO.out]; rfl) (by rw [HS.out]; decide) (fun _ _ h => h) ?_
          -- slot 48
          refine wpFacts_skip 6 false 45 rfl (by rw [HO.out]; rfl) (by rw [HS.out]; decide) (fun _ _ h => h) ?_
          -- slot 49
          refine wpFacts_skip 6 false 45 rfl (by rw [HO.out]; rfl) (by rw [HS.out]; decide) (fun _ _ h => h) ?_
          -- slot 50
          refine wpFacts_skip 6 false 45 rfl (by rw [HO.out]; rfl) (by rw [HS.out]; decide) (fun _ _ h => h) ?_
          -- slot 51
          refine wpFacts_skip 6 false 45 rfl (by rw [HO.out]; rfl) (by rw [HS.out]; decide) (fun _ _ h => h) ?_
          -- slot 52
          refine wpFacts_skip 6 false 45 rfl (by rw [HO.out]; rfl) (by rw [HS.out]; decide) (fun _ _ h => h) ?_
          -- slot 53
          refine wpFacts_skip 6 false 45 rfl (by rw [HO.out]; rfl) (by rw [HS.out]; decide) (fun _ _ h => h) ?_
          -- slot 54
          refine wpFacts_skip 6 false 45 rfl (by rw [HO.out]; rfl) (by rw [HS.out]; decide) (fun _ _ h => h) ?_
          -- slot 55
          refine wpFacts_skip 6 false 45 rfl (by rw [HO.out]; rfl) (by rw [HS.out]; decide) (fun _ _ h => h) ?_
          refine HL.out _ (fun a' w5 hc => ?_)
          have e45 : a'.eval (.tmp 45) = .bool true := hc.fact 45 (by rw [HS.out]; decide)
          have e55 : a'.eval (.tmp 55) = undef := hc.fact 55 (by rw [HS.out]; decide)
          have hg5 := gb_trans HGW.out hc.grown (.inl rfl)
          have hfr := hc.frame [39, 40, 41, 42, 43, 44, 45, 46, 47, 48, 49, 50, 51, 52, 53, 54, 55, 56] (by rw [HO.out]; kernel_rfl)
          rw [hfr]
          clear hfr hc
          rw [HA.out]
          clear HA HO HL HW HS HGW A0 A6
          clear A O W L
          simp only [List.drop_succ_cons, List.drop_zero, List.foldl_cons, List.foldl_nil, Act.put, List.setIfInBounds_toArray, List.set_cons_succ, List.set_cons_zero]
          rw [e45, e55]
          generalize a'.eval (.tmp 39) = v39
          generalize a'.eval (.tmp 40) = v40
          generalize a'.eval (.tmp 41) = v41
          generalize a'.eval (.tmp 42) = v42
          generalize a'.eval (.tmp 43) = v43
          generalize a'.eval (.tmp 44) = v44
          generalize a'.eval (.tmp 46) = v46
          generalize a'.eval (.tmp 47) = v47
          generalize a'.eval (.tmp 48) = v48
          generalize a'.eval (.tmp 49) = v49
          generalize a'.eval (.tmp 50) = v50
          generalize a'.eval (.tmp 51) = v51
          generalize a'.eval (.tmp 52) = v52
          generalize a'.eval (.tmp 53) = v53
          generalize a'.eval (.tmp 54) = v54
          generalize a'.eval (.tmp 56) = v56
          clear e45 e55
          clear a'
          have HG5 := hide (gb_trans HGR.out (gb_trans HG1.out hg5 (.inl rfl)) (.inl rfl))
          clear hg5
          go_wp2_with fail
          go_roundw
          case rel => exact ⟨j + 1, by go_num, by have := HLT.out; omega, by rw [← HS1.out], by rw [HAQ.out, HA1.out], HG5.out⟩
          case measure => have := HLT.out; simp [intOf]; omega
        · rw [ha] at HFL HAL
          clear ha
          go_wp2_with (first
            | (go_at_call 29; refine (HPA.out _).mono ?_; rintro e w0 ⟨rfl, hg0⟩; have HG0 := hide hg0; clear d0 d1 d2 d3; obtain ⟨d0, d1, d2, d3⟩ := HDR.out.gb hg0; clear hg0)
            | (go_at_call 30; refine (HCT.out _ HG0.out).mono ?_; rintro e w1 ⟨rfl, hg1⟩; have HG1 := hide (gb_trans HG0.out hg1 (.inl rfl)); clear hg1))
          have HD := hide (HDR.out.gb HG1.out)
          have HE := hide (HER.out.gb HG1.out)
          refine wp_region_facts' 17 (by kernel_rfl) (by kernel_rfl) ?_
          intro A O W L HA HO HW HL
          simp only [List.take_succ_cons, List.take_zero]
          have HS := hide (show A.tmps.size = 159 by rw [HA.out]; rfl)
          have HGW := hide (show w1.grownBy W none by rw [HW.out]; exact gb_drew (gb_refl w1 none))
          have A0 := hide (show A.eval (.tmp 0) = .slice (some ⟨q, o, none⟩) l.length c by rw [HA.out]; rfl)
          have A6 := hide (show A.eval (.tmp 6) = .int .i64 (j : Int) by rw [HA.out]; rfl)
          -- slot 39
          refine wpFacts_lit (.slice (some ⟨q, o, none⟩) l.length c) rfl ?_ ?_
          · intro a wq hw hl
            have e0 : a.tmps[0]?.getD undef = .slice (some ⟨q, o, none⟩) l.length c := (hl 0 (by first | (simp [Op.operands]; done) | simp [Op.operands, Call.operands]) (by rw [HS.out]; decide)).trans A0.out
            clear hl
            go_simp
          -- slot 40
          refine wpFacts_lit (.int .i64 (j : Int)) rfl ?_ ?_
          · intro a wq hw hl
            have e6 : a.tmps[6]?.getD undef = .int .i64 (j : Int) := (hl 6 (by first | (simp [Op.operands]; done) | simp [Op.operands, Call.operands]) (by rw [HS.out]; decide)).trans A6.out
            clear hl
            go_simp
          -- slot 41
          refine wpFacts_lit (.pointer (some ⟨q, o + j * 4, none⟩)) rfl ?_ ?_
          · intro a wq hw hl
            have e39 : a.tmps[39]?.getD undef = .slice (some ⟨q, o, none⟩) l.length c := hl 39 (by first | (simp [Op.operands]; done) | simp [Op.operands, Call.operands]) (by rw [HS.out]; decide)
            have e40 : a.tmps[40]?.getD undef = .int .i64 (j : Int) := hl 40 (by first | (simp [Op.operands]; done) | simp [Op.operands, Call.operands]) (by rw [HS.out]; decide)
            have hlt9 := HLT1.out
            clear hl
            go_simp
          -- slot 42
          refine wpFacts_lit (.agg #[.int .i64 y.t, .slice xA y.n.length xc, .slice yA y.s.length yc, .slice zA y.l.length zc]) rfl ?_ ?_
          · intro a wq hw hl
            have e41 : a.tmps[41]?.getD undef = .pointer (some ⟨q, o + j * 4, none⟩) := hl 41 (by first | (simp [Op.operands]; done) | simp [Op.operands, Call.operands]) (by rw [HS.out]; decide)
            have c0 := cell_gb HD.out.c0 (gb_trans HGW.out hw (.inl rfl))
            have c1 := cell_gb HD.out.c1 (gb_trans HGW.out hw (.inl rfl))
            have c2 := cell_gb HD.out.c2 (gb_trans HGW.out hw (.inl rfl))
            have c3 := cell_gb HD.out.c3 (gb_trans HGW.out hw (.inl rfl))
            clear hl
            go_simp
          -- slot 43
          refine wpFacts_step (fun vq _ => vq = .bool true) rfl (Lit.up _) ?_ ?_
          · intro a wq hw hl
            have e42 : a.tmps[42]?.getD undef = .agg #[.int .i64 y.t, .slice xA y.n.length xc, .slice yA y.s.length yc, .slice zA y.l.length zc] := hl 42 (by first | (simp [Op.operands]; done) | simp [Op.operands, Call.operands]) (by rw [HS.out]; decide)
            clear hl
            go_simp
            exact gUpon_lit (HFL.out _)
          -- slot 44
          refine wpFacts_lit (.bool false) rfl ?_ ?_
          · intro a wq hw hl
            have e43 : a.tmps[43]?.getD undef = .bool true := hl 43 (by first | (simp [Op.operands]; done) | simp [Op.operands, Call.operands]) (by rw [HS.out]; decide)
            clear hl
            go_simp
          -- slot 45
          refine wpFacts_lit (.bool false) rfl ?_ ?_
          · intro a wq hw hl
            have e44 : a.tmps[44]?.getD undef = .bool false := hl 44 (by first | (simp [Op.operands]; done) | simp [Op.operands, Call.operands]) (by rw [HS.out]; decide)
            clear hl
            go_simp
          -- slot 46
          refine wpFacts_litG (.slice (some ⟨q, o, none⟩) l.length c) 6 false 45 rfl (by rw [HO.out]; rfl) (by rw [HS.out]; decide) (fun _ _ h => h) ?_ ?_
          · intro a wq hw hl
            have e0 : a.tmps[0]?.getD undef = .slice (some ⟨q, o, none⟩) l.length c := (hl 0 (by first | (simp [Op.operands]; done) | simp [Op.operands, Call.operands]) (by rw [HS.out]; decide)).trans A0.out
            clear hl
            go_simp
          -- slot 47
          refine wpFacts_litG (.int .i64 (j : Int)) 6 false 45 rfl (by rw [HO.out]; rfl) (by rw [HS.out]; decide) (fun _ _ h => h) ?_ ?_
          · intro a wq hw hl
            have e6 : a.tmps[6]?.getD undef = .int .i64 (j : Int) := (hl 6 (by first | (simp [Op.operands]; done) | simp [Op.operands, Call.operands]) (by rw [HS.out]; decide)).trans A6.out
            clear hl
            go_simp
          -- slot 48
          refine wpFacts_litG (.pointer (some ⟨q, o + j * 4, none⟩)) 6 false 45 rfl (by rw [HO.out]; rfl) (by rw [HS.out]; decide) (fun _ _ h => h) ?_ ?_
          · intro a wq hw hl
            have e46 : a.tmps[46]?.getD undef = .slice (some ⟨q, o, none⟩) l.length c := hl 46 (by first | (simp [Op.operands]; done) | simp [Op.operands, Call.operands]) (by rw [HS.out]; decide)
            have e47 : a.tmps[47]?.getD undef = .int .i64 (j : Int) := hl 47 (by first | (simp [Op.operands]; done) | simp [Op.operands, Call.operands]) (by rw [HS.out]; decide)
            have hlt9 := HLT1.out
            clear hl
            go_simp
          -- slot 49
          refine wpFacts_litG (.agg #[.int .i64 y.t, .slice xA y.n.length xc, .slice yA y.s.length yc, .slice zA y.l.length zc]) 6 false 45 rfl (by rw [HO.out]; rfl) (by rw [HS.out]; decide) (fun _ _ h => h) ?_ ?_
          · intro a wq hw hl
            have e48 : a.tmps[48]?.getD undef = .pointer (some ⟨q, o + j * 4, none⟩) := hl 48 (by first | (simp [Op.operands]; done) | simp [Op.operands, Call.operands]) (by rw [HS.out]; decide)
            have c0 := cell_gb HD.out.c0 (gb_trans HGW.out hw (.inl rfl))
            have c1 := cell_gb HD.out.c1 (gb_trans HGW.out hw (.inl rfl))
            have c2 := cell_gb HD.out.c2 (gb_trans HGW.out hw (.inl rfl))
            have c3 := cell_gb HD.out.c3 (gb_trans HGW.out hw (.inl rfl))
            clear hl
            go_simp
          -- slot 50
          refine wpFacts_stepG (fun vq _ => vq = .int .i64 ky) 6 false 45 rfl (by rw [HO.out]; rfl) (by rw [HS.out]; decide) (fun _ _ h => h) (Lit.up _) ?_ ?_
          · intro a wq hw hl
            have e49 : a.tmps[49]?.getD undef = .agg #[.int .i64 y.t, .slice xA y.n.length xc, .slice yA y.s.length yc, .slice zA y.l.length zc] := hl 49 (by first | (simp [Op.operands]; done) | simp [Op.operands, Call.operands]) (by rw [HS.out]; decide)
            clear hl
            go_simp
            exact gUpon_lit (HKY.out _)
          -- slot 51
          refine wpFacts_litG (.slice (some ⟨q, o, none⟩) l.length c) 6 false 45 rfl (by rw [HO.out]; rfl) (by rw [HS.out]; decide) (fun _ _ h => h) ?_ ?_
          · intro a wq hw hl
            have e0 : a.tmps[0]?.getD undef = .slice (some ⟨q, o, none⟩) l.length c := (hl 0 (by first | (simp [Op.operands]; done) | simp [Op.operands, Call.operands]) (by rw [HS.out]; decide)).trans A0.out
            clear hl
            go_simp
          -- slot 52
          refine wpFacts_litG (.pointer (some ⟨q, o, none⟩)) 6 false 45 rfl (by rw [HO.out]; rfl) (by rw [HS.out]; decide) (fun _ _ h => h) ?_ ?_
          · intro a wq hw hl
            have e51 : a.tmps[51]?.getD undef = .slice (some ⟨q, o, none⟩) l.length c := hl 51 (by first | (simp [Op.operands]; done) | simp [Op.operands, Call.operands]) (by rw [HS.out]; decide)
            have hl09 := HLN.out
            clear hl
            go_simp
          -- slot 53
          refine wpFacts_litG (.agg #[.int .i64 z.t, .slice rA z.n.length rc, .slice sA z.s.length sc, .slice tA z.l.length tc]) 6 false 45 rfl (by rw [HO.out]; rfl) (by rw [HS.out]; decide) (fun _ _ h => h) ?_ ?_
          · intro a wq hw hl
            have e52 : a.tmps[52]?.getD undef = .pointer (some ⟨q, o, none⟩) := hl 52 (by first | (simp [Op.operands]; done) | simp [Op.operands, Call.operands]) (by rw [HS.out]; decide)
            have c0 := cell_gb HE.out.c0 (gb_trans HGW.out hw (.inl rfl))
            have c1 := cell_gb HE.out.c1 (gb_trans HGW.out hw (.inl rfl))
            have c2 := cell_gb HE.out.c2 (gb_trans HGW.out hw (.inl rfl))
            have c3 := cell_gb HE.out.c3 (gb_trans HGW.out hw (.inl rfl))
            clear hl
            go_simp
          -- slot 54
          refine wpFacts_stepG (fun vq _ => vq = .int .i64 k0) 6 false 45 rfl (by rw [HO.out]; rfl) (by rw [HS.out]; decide) (fun _ _ h => h) (Lit.up _) ?_ ?_
          · intro a wq hw hl
            have e53 : a.tmps[53]?.getD undef = .agg #[.int .i64 z.t, .slice rA z.n.length rc, .slice sA z.s.length sc, .slice tA z.l.length tc] := hl 53 (by first | (simp [Op.operands]; done) | simp [Op.operands, Call.operands]) (by rw [HS.out]; decide)
            clear hl
            go_simp
            exact gUpon_lit (HKZ.out _)
          -- slot 55
          refine wpFacts_litG (.bool (ky != k0)) 6 false 45 rfl (by rw [HO.out]; rfl) (by rw [HS.out]; decide) (fun _ _ h => h) ?_ ?_
          · intro a wq hw hl
            have e50 : a.tmps[50]?.getD undef = .int .i64 ky := hl 50 (by first | (simp [Op.operands]; done) | simp [Op.operands, Call.operands]) (by rw [HS.out]; decide)
            have e54 : a.tmps[54]?.getD undef = .int .i64 k0 := hl 54 (by first | (simp [Op.operands]; done) | simp [Op.operands, Call.operands]) (by rw [HS.out]; decide)
            clear hl
            go_simp
          refine HL.out _ (fun a' w5 hc => ?_)
          have e45 : a'.eval (.tmp 45) = .bool false := hc.fact 45 (by rw [HS.out]; decide)
          have e55 : a'.eval (.tmp 55) = .bool (ky != k0) := hc.fact 55 (by rw [HS.out]; decide)
          have hg5 := gb_trans HGW.out hc.grown (.inl rfl)
          have hfr := hc.frame [39, 40, 41, 42, 43, 44, 45, 46, 47, 48, 49, 50, 51, 52, 53, 54, 55, 56] (by rw [HO.out]; kernel_rfl)
          rw [hfr]
          clear hfr hc
          rw [HA.out]
          clear HA HO HL HW HS HGW A0 A6
          clear A O W L
          simp only [List.drop_succ_cons, List.drop_zero, List.foldl_cons, List.foldl_nil, Act.put, List.setIfInBounds_toArray, List.set_cons_succ, List.set_cons_zero]
          rw [e45, e55]
          generalize a'.eval (.tmp 39) = v39
          generalize a'.eval (.tmp 40) = v40
          generalize a'.eval (.tmp 41) = v41
          generalize a'.eval (.tmp 42) = v42
          generalize a'.eval (.tmp 43) = v43
          generalize a'.eval (.tmp 44) = v44
          generalize a'.eval (.tmp 46) = v46
          generalize a'.eval (.tmp 47) = v47
          generalize a'.eval (.tmp 48) = v48
          generalize a'.eval (.tmp 49) = v49
          generalize a'.eval (.tmp 50) = v50
          generalize a'.eval (.tmp 51) = v51
          generalize a'.eval (.tmp 52) = v52
          generalize a'.eval (.tmp 53) = v53
          generalize a'.eval (.tmp 54) = v54
          generalize a'.eval (.tmp 56) = v56
          clear e45 e55
          clear a'
          have HG5 := hide (gb_trans HGR.out (gb_trans HG1.out hg5 (.inl rfl)) (.inl rfl))
          clear hg5
          by_cases ht : ky = k0
          · have e1 := int_bne_t ht
            have HA1 := hide (show al1 = al by rw [HAL.out, beq_iff_eq.2 ht]; simp)
            clear ht HAL
            go_wp2_with fail
            go_roundw
            case rel => exact ⟨j + 1, by go_num, by have := HLT.out; omega, by rw [← HS1.out], by rw [HAQ.out, HA1.out], HG5.out⟩
            case measure => have := HLT.out; simp [intOf]; omega
          · have e1 := int_bne_f ht
            have HA1 := hide (show al1 = false by rw [HAL.out, beq_eq_false_iff_ne.2 ht]; simp)
            clear ht HAL
            go_wp2_with fail
            go_roundw
            case rel => exact ⟨j + 1, by go_num, by have := HLT.out; omega, by rw [← HS1.out], by rw [HAQ.out, HA1.out], HG5.out⟩
            case measure => have := HLT.out; simp [intOf]; omega
    · have hlt1 : ¬ (j : Int) < (l.length : Int) := by omega
      obtain rfl : j = l.length := by omega
      rw [List.take_length]
      have HGR := hide hgr
      have HG2 := hide (gb_trans HG.out hgr (.inl rfl))
      clear hgr hlt hj
      by_cases hw : 65536 < widS l
      · have h13 : decide ((65536 : Int) < (widS l : Int)) = true := decide_eq_true (by omega)
        obtain ⟨rfl, rfl⟩ := R1.out hw
        clear hw
        have hr2 := blk_keep HB.out HGR.out (by simp)
        have HR2 := hide hr2
        have z0 := blk_frozen hr2 0
        have z1 := blk_frozen hr2 1
        have z2 := blk_frozen hr2 2
        have z3 := blk_frozen hr2 3
        have y0 : wr.cell? ⟨w.heap.size, 0, none⟩ = some (.int .i64 0) := (by { rw [blk_cell hr2]; rfl })
        have y1 : wr.cell? ⟨w.heap.size, 1, none⟩ = some (.slice none 0 0) := (by { rw [blk_cell hr2]; rfl })
        have y2 : wr.cell? ⟨w.heap.size, 2, none⟩ = some (.slice none 0 0) := (by { rw [blk_cell hr2]; rfl })
        have y3 : wr.cell? ⟨w.heap.size, 3, none⟩ = some (.slice none 0 0) := (by { rw [blk_cell hr2]; rfl })
        clear hr2
        go_wp2_with fail
        obtain ⟨m0, m1, m2, m3⟩ := C4.put HR2.out (.int .i64 0) (.slice none 0 0) (.slice none 0 0) (.slice none 0 0)
        simp only [put4, Nat.zero_add] at m0 m1 m2 m3
        refine bodyPost_ret (v := .tuple #[.agg #[.int .i64 0, .slice none 0 0, .slice none 0 0, .slice none 0 0], .int .i64 6]) (by simp [results, Tryz.results20, go_sem, m0, m1, m2, m3]) rfl (atN_err ⟨rfl, ?_⟩)
        exact put4_to HG2.out (Nat.le_refl _)
      · have h13 : decide ((65536 : Int) < (widS l : Int)) = false := decide_eq_false (by omega)
        have HNM := hide hw
        clear hw
        go_wp2_with fail
        go_loopw [7] (fun i wq => ∃ j : Nat, i = .int .i64 (j : Int) ∧ j ≤ l.length ∧ Hid ((l.take j).any vNl = false) ∧ wa.grownBy wq none) (fun i _ => l.length - (intOf i).toNat)
        case atStart => exact ⟨0, rfl, Nat.zero_le _, hide (by simp), HGR.out⟩
        case round =>
          obtain ⟨j, rfl, hj, HNJ, hgr⟩ := hrel
          by_cases hlt : j < l.length
          · have hlt1 : (j : Int) < (l.length : Int) := by omega
            obtain ⟨q, o, xA, xc, yA, yc, zA, zc, hA, hqB, hc4, hvb⟩ := H.out.at_ hlt
            subst hA
            have hgw := gb_trans HG.out hgr (.inl rfl)
            obtain ⟨y, hy⟩ : ∃ y, y = l[j] := ⟨_, rfl⟩
            obtain ⟨d0, d1, d2, d3⟩ : C4 wr q (o + j * 4) (.int .i64 y.t) (.slice xA y.n.length xc) (.slice yA y.s.length yc) (.slice zA y.l.length zc) := by subst hy; exact hc4.gb hgw
            have h6 : IntKind.i64.wrap ((j : Int) + 1) = ((j + 1 : Nat) : Int) := by rw [IntKind.wrap_i64]; have := HL.out; omega
            have HGR2 := hide hgr
            have HGW2 := hide hgw
            have HLT := hide hlt
            have HTK := hide (show (l.take (j + 1)).any vNl = ((l.take j).any vNl || vNl y) by rw [List.take_succ_eq_append_getElem hlt, List.any_append, hy]; simp)
            have hym : y ∈ l := by rw [hy]; exact List.getElem_mem hlt
            cases hv : vNl y
            · have e0 : (y.t == 101) = false := hv
              have HE0 := hide hv
              clear hc4 hvb hgw hgr hj hym hy hlt hv
              go_wp2_with fail
              go_roundw
              case rel => exact ⟨j + 1, by go_num, by have := HLT.out; omega, hide (by rw [HTK.out, HNJ.out, HE0.out]; rfl), HGR2.out⟩
              case measure => have := HLT.out; simp [intOf]; omega
            · have e0 : (y.t == 101) = true := hv
              have HVY := hide hv
              have HYM := hide hym
              clear hc4 hvb hgw hgr hj hym hy hlt hv
              have hr2 := blk_keep HB.out HGR2.out (by simp)
              have HR2 := hide hr2
              have z0 := blk_frozen hr2 0
              have z1 := blk_frozen hr2 1
              have z2 := blk_frozen hr2 2
              have z3 := blk_frozen hr2 3
              have y0 : wr.cell? ⟨w.heap.size, 0, none⟩ = some (.int .i64 0) := (by { rw [blk_cell hr2]; rfl })
              have y1 : wr.cell? ⟨w.heap.size, 1, none⟩ = some (.slice none 0 0) := (by { rw [blk_cell hr2]; rfl })
              have y2 : wr.cell? ⟨w.heap.size, 2, none⟩ = some (.slice none 0 0) := (by { rw [blk_cell hr2]; rfl })
              have y3 : wr.cell? ⟨w.heap.size, 3, none⟩ = some (.slice none 0 0) := (by { rw [blk_cell hr2]; rfl })
              clear hr2
              obtain ⟨rfl, rfl⟩ := R2.out HNM.out (List.any_eq_true.2 ⟨y, HYM.out, HVY.out⟩)
              go_wp2_with fail
              obtain ⟨m0, m1, m2, m3⟩ := C4.put HR2.out (.int .i64 0) (.slice none 0 0) (.slice none 0 0) (.slice none 0 0)
              simp only [put4, Nat.zero_add] at m0 m1 m2 m3
              refine bodyPost_ret (v := .tuple #[.agg #[.int .i64 0, .slice none 0 0, .slice none 0 0, .slice none 0 0], .int .i64 31]) (by simp [results, Tryz.results20, go_sem, m0, m1, m2, m3]) rfl (atN_err ⟨rfl, ?_⟩)
              exact put4_to HGW2.out (Nat.le_refl _)
          · have hlt1 : ¬ (j : Int) < (l.length : Int) := by omega
            have HGR3 := hide hgr
            have HG3 := hide (gb_trans HG.out hgr (.inl rfl))
            have HNN := hide (show l.any vNl = false by have h9 := HNJ.out; rwa [List.take_of_length_le (by omega)] at h9)
            clear hgr hlt hj
            cases hak : alkQ l k0 l.length
            · have HAK := hide (show alkQ l (headK l) l.length = false by rw [← HK0.out]; exact hak)
              clear hak
              obtain ⟨ov, hov⟩ : ∃ ov, ov = ofV (flX l) := ⟨_, rfl⟩
              have hof := fun w2 A2 c2 (hr : RdV w2 w2.heap.size A2 (flX l)) => rOfS (flX l) w2 w2.heap.size A2 c2 HFT5.out (Nat.le_refl _) hr
              have hvt := HVT5.out
              have hr4 := R4.out HNM.out HNN.out HAK.out
              have hr5 := R5.out HNM.out HNN.out HAK.out
              rw [← hov] at hvt hof hr4 hr5
              have HR4 := hide hr4
              have HR5 := hide hr5
              have HOF := hide hof
              have HFL := hide (Nat.le_trans (Vl.length_le_tots _) HFT5.out)
              have HDP := hide (fun w2 iA ic jA jc kA kc (hv : VB w2 w2.heap.size ov iA ic jA jc kA kc) => rDepth_any ov w2 w2.heap.size iA ic jA jc kA kc hvt (Nat.le_refl _) hv)
              clear hvt hof hr4 hr5 hov R1 R2 R3 R4 R5
              go_wp2_with fail
              go_loopw [10, 11] (fun E i wq => ∃ j : Nat, i = .int .i64 (j : Int) ∧ j ≤ l.length ∧ RowM wa.heap.size B (flX (l.take j)) wq E ∧ wa.grownBy wq none) (fun _ i _ => l.length - (intOf i).toNat)
              case atStart => exact ⟨0, rfl, Nat.zero_le _, RowM.none_ ⟨by have := HBB.out; have := HG.out.size; omega, HGR3.out.size⟩, HGR3.out⟩
              case round =>
                obtain ⟨j, rfl, hj, hall, hgr⟩ := hrel
                by_cases hlt : j < l.length
                · have hlt1 : (j : Int) < (l.length : Int) := by omega
                  obtain ⟨q, o, xA, xc, yA, yc, zA, zc, hA, hqB, hc4, hvb⟩ := H.out.at_ hlt
                  subst hA
                  obtain ⟨y, hy⟩ : ∃ y, y = l[j] := ⟨_, rfl⟩
                  have HC4 := hide (show C4 w q (o + j * 4) (.int .i64 y.t) (.slice xA y.n.length xc) (.slice yA y.s.length yc) (.slice zA y.l.length zc) by subst hy; exact hc4)
                  have HVB := hide (show VB w B y xA xc yA yc zA zc by subst hy; exact hvb)
                  have h6 : IntKind.i64.wrap ((j : Int) + 1) = ((j + 1 : Nat) : Int) := by rw [IntKind.wrap_i64]; have := HL.out; omega
                  have hty9 : y.tot ≤ 500000000 := by rw [hy]; have h1 := Vl.tot_mem (List.getElem_mem hlt); have h2 := HT5.out; omega
                  have HCT := hide (fun w2 (hg : w.grownBy w2 none) => rCount_any y w2 B xA xc yA yc zA zc (by omega) (by have := HBB.out; have := hg.size; omega) (HVB.out.gb hg HBB.out))
                  have hfl1 := flX_le l (j + 1)
                  rw [flX_take l j hlt, ← hy, List.length_append] at hfl1
                  have hfl2 := HFL.out
                  have hft1 : flX (l.take (j + 1)) = flX (l.take j) ++ elX y := by rw [hy]; exact flX_take l j hlt
                  generalize hvs : flX (l.take j) = vs at *
                  have HLT := hide hlt
                  have HALL := hide hall
                  have HGR := hide hgr
                  have HGW := hide (gb_trans HG.out hgr (.inl rfl))
                  clear hvs hy hc4 hvb hall hgr hj hqB hlt
                  obtain ⟨d0, d1, d2, d3⟩ := HC4.out.gb HGW.out
                  by_cases hpa : kdV y = y.t
                  · have HPA := hide (fun w2 => (part_any y (.slice xA y.n.length xc) (.slice yA y.s.length yc) (.slice zA y.l.length zc) w2).mono (fun e w' h => (⟨h.1.trans (by rw [beq_iff_eq.2 hpa]), h.2⟩ : e = .returned (.bool true) ∧ w2.grownBy w' none)))
                    have HATL := hide (fun (p : Int) (w2 : World) (hg : w.grownBy w2 none) => rAtN y p w2 B xA xc yA yc zA zc (kd_seq hpa) hty9 (Nat.le_trans HBB.out hg.size) (HVB.out.gb hg HBB.out))
                    have hex : elX y = elS y y.count := by unfold elX; rw [if_pos hpa]
                    rw [hex, elS_len] at hfl1
                    have HLE := hide (show vs.length + y.count ≤ 1200000000 by omega)
                    have HFT := hide (show flX (l.take (j + 1)) = vs ++ elS y y.count by rw [hft1, hex])
                    clear hpa hex hfl1 hfl2 hft1 hty9
                    obtain ⟨i1, hi1, hiz, his, hib⟩ := info_parts Tryz.infoV
                    have HI1 := hide hi1
                    have HIZ := hide hiz
                    have HIS := hide his
                    have HIB := hide hib
                    clear hi1 hiz his hib
                    go_wp2_with fail
                    clear d0 d1 d2 d3
                    go_loopw [10, 12] (fun E k wq => ∃ m : Nat, k = .int .i64 (m : Int) ∧ m ≤ y.count ∧ RowM wa.heap.size B (vs ++ elS y m) wq E ∧ wa.grownBy wq none) (fun _ k _ => y.count - (intOf k).toNat)
                    case atStart => exact ⟨0, rfl, Nat.zero_le _, by rw [show vs ++ elS y 0 = vs by simp [elS]]; exact HALL.out, HGR.out⟩
                    case round =>
                      obtain ⟨m, rfl, hm, hall, hgr⟩ := hrel
                      have HAL5 := hide hall
                      have HGR5 := hide hgr
                      have HGW5 := hide (gb_trans HG.out hgr (.inl rfl))
                      clear hall hgr HALL HGR HGW
                      obtain ⟨d0, d1, d2, d3⟩ := HC4.out.gb HGW5.out
                      by_cases hlt5 : m < y.count
                      · have hlt51 : (m : Int) < (y.count : Int) := by omega
                        obtain ⟨ye, hye⟩ : ∃ ye, ye = elemV y m := ⟨_, rfl⟩
                        have hat : ∀ w2, w.grownBy w2 none → Calls Tryz.prog 49 #[.agg #[.int .i64 y.t, .slice xA y.n.length xc, .slice yA y.s.length yc, .slice zA y.l.length zc], .int .i64 (m : Int)] w2 (AtN ye 0 w2) := fun w2 hg => by
                          have h1 := HATL.out (m : Int) w2 hg
                          have h2 : pickE y (m : Int) = ye := by unfold pickE; rw [if_pos ⟨by omega, hlt51⟩, hye]; rfl
                          rwa [h2, errE_in ⟨by omega, hlt51⟩] at h1
                        have HATW := hide hat
                        have HYE := hide hye
                        have HM5 := hide hlt5
                        have h8 : IntKind.i64.wrap ((m : Int) + 1) = ((m + 1 : Nat) : Int) := by rw [IntKind.wrap_i64]; have := HLE.out; omega
                        clear hye hat hlt5 hm
                        go_upto_region 34 with (first | (go_at_call 30; refine (HCT.out _ HGW5.out).mono ?_; rintro e w0 ⟨rfl, hg0⟩; have HG0 := hide hg0; have HGA0 := hide (gb_trans HGR5.out hg0 (.inl rfl)); have HGW0 := hide (gb_trans HGW5.out hg0 (.inl rfl)); clear d0 d1 d2 d3; obtain ⟨d0, d1, d2, d3⟩ := HC4.out.gb HGW0.out; clear hg0) | (go_at_call 29; refine (HPA.out _).mono ?_; rintro e w1 ⟨rfl, hg1⟩; have HG1 := hide (gb_trans HG0.out hg1 (.inl rfl)); have HGA1 := hide (gb_trans HGA0.out hg1 (.inl rfl)); have HGW1 := hide (gb_trans HGW0.out hg1 (.inl rfl)); clear d0 d1 d2 d3; obtain ⟨d0, d1, d2, d3⟩ := HC4.out.gb HGW1.out; clear hg1) | (go_at_call 49; refine (HATW.out w1 HGW1.out).mono ?_; rintro e w3 ⟨aA, ac, bA, bc, dA, dc, f9, rfl, ho3, hn3, hg3⟩; have HO3 := hide ho3; have HN3 := hide hn3; have HG3 := hide hg3; clear ho3 hn3 hg3))
                        obtain ⟨wc, hwc⟩ : ∃ wc, wc = w3.alloc (.cells #[.int .i64 ye.t, .slice aA ye.n.length ac, .slice bA ye.s.length bc, .slice dA ye.l.length dc] 26) := ⟨_, rfl⟩
                        have hgc : w3.grownBy wc none := by rw [hwc]; exact gb_alloc (gb_refl w3 none) _
                        obtain ⟨bk, hbke⟩ : ∃ bk, bk = w3.heap.size := ⟨_, rfl⟩
                        have hbk : wc.heap[bk]? = some (.cells #[.int .i64 ye.t, .slice aA ye.n.length ac, .slice bA ye.s.length bc, .slice dA ye.l.length dc] 26 (0, 0)) := by rw [hwc, hbke]; exact heap_alloc_new w3 _
                        rw [← hwc, ← hbke]
                        have HGX := hide (gb_trans HG3.out hgc (.inl rfl))
                        have HNW := hide (HN3.out.more hgc.size)
                        have HOV := hide (HO3.out.gb hgc)
                        clear d0 d1 d2 d3
                        obtain ⟨d0, d1, d2, d3⟩ : C4 wc bk 0 (.int .i64 ye.t) (.slice aA ye.n.length ac) (.slice bA ye.s.length bc) (.slice dA ye.l.length dc) := ⟨by rw [blk_cell hbk]; rfl, by rw [blk_cell hbk]; rfl, by rw [blk_cell hbk]; rfl, by rw [blk_cell hbk]; rfl⟩
                        have HALW := hide (HAL5.out.gb HG1.out)
                        have HAL3 := hide (HALW.out.gb HGX.out)
                        have HLE3 := hide (show (vs ++ elS y m).length + 1 ≤ 1200000000 by have h1 := HLE.out; have h2 := HM5.out; rw [List.length_append, elS_len]; omega)
                        clear HAL5 hwc hgc hbk hbke
                        have hk7 : wc.grownBy (wc.alloc (.cells #[.int .i64 ye.t, .slice aA ye.n.length ac, .slice bA ye.s.length bc, .slice dA ye.l.length dc] 26)) none := gb_alloc (gb_refl wc none) _
                        have HK7 := hide hk7
                        have HAL4 := hide (HAL3.out.gb hk7)
                        have HRD4 := hide (rd_lit wc #[.int .i64 ye.t, .slice aA ye.n.length ac, .slice bA ye.s.length bc, .slice dA ye.l.length dc] 26 [.int .i64 ye.t, .slice aA ye.n.length ac, .slice bA ye.s.length bc, .slice dA ye.l.length dc] rfl)
                        have HOC4 := hide (V4_one ye.t aA bA dA ye.n.length ye.s.length ye.l.length ac bc dc)
                        have HBS4 := hide HAL4.out.hb.2
                        have HM2 : Hid ((vs ++ elS y m).length + 1 ≤ maxLen) := hide (by unfold maxLen; have := HLE3.out; omega)
                        have HMB2 : Hid (((vs ++ elS y m).length + 1) * 80 ≤ 140737488355328) := hide (by have := HLE3.out; omega)
                        have HMX := hide (show Mix (wc.alloc (.cells #[.int .i64 ye.t, .slice aA ye.n.length ac, .slice bA ye.s.length bc, .slice dA ye.l.length dc] 26)) B [ye] [[.int .i64 ye.t, .slice aA ye.n.length ac, .slice bA ye.s.length bc, .slice dA ye.l.length dc]] f9 from Mix.own1 (HOV.out.gb HK7.out))
                        have HGS := hide (show ∀ b ∈ f9, u10.ownBlock ≠ some b from fun b hb e => by obtain ⟨_, _, h4, _⟩ := HALW.out.p; have h5 := (h4.lt b e).2; have h6 := (HNW.out.2 b hb).1; omega)
                        have HUP := hide (show wa.grownBy wc none from gb_trans HGA1.out HGX.out (.inl rfl))
                        clear hk7
                        go_wp2_with (at_builtin
                                     obtain ⟨xs, f, how, hva, hsep⟩ := HAL4.out.p
                                     refine wpList_append_rd _ rfl (.tmp 135) (.tmp 137) 24 rfl wa.heap.size 26 i1 (.agg #[.int .i64 0, .slice none 0 0, .slice none 0 0, .slice none 0 0]) 4 80 Tryz.underlying24 HI1.out HIZ.out HIS.out HIB.out rfl (Nat.succ_pos 3) u10 (vs ++ elS y m).length (List.flatten xs) rfl how (wc.alloc (.cells #[.int .i64 ye.t, .slice aA ye.n.length ac, .slice bA ye.s.length bc, .slice dA ye.l.length dc] 26)).heap.size (some ⟨wc.heap.size, 0, none⟩) 1 1 [.int .i64 ye.t, .slice aA ye.n.length ac, .slice bA ye.s.length bc, .slice dA ye.l.length dc] rfl rfl HRD4.out HOC4.out HM2.out HMB2.out HBS4.out ?_
                                     intro v7 w7 ho7 hg7 hb7
                                     have HFIN := hide (show RowM wa.heap.size B ((vs ++ elS y m) ++ [ye]) w7 v7 ∧ wa.grownBy w7 none from
                                       ⟨RowM.app (es := [ye]) (ys := [[.int .i64 ye.t, .slice aA ye.n.length ac, .slice bA ye.s.length bc, .slice dA ye.l.length dc]]) HAL4.out.hb how hva hsep HMX.out HGS.out ho7 hg7 hb7, HAL4.out.grown (Nat.le_refl _) (gb_trans HUP.out HK7.out (.inl rfl)) hg7⟩)
                                     clear ho7 hg7 hb7 how hva hsep)
                        go_roundw
                        case rel => exact ⟨m + 1, by go_num, by have := HM5.out; omega, by rw [elS_succ, ← List.append_assoc, ← HYE.out]; exact HFIN.out.1, HFIN.out.2⟩
                        case measure => have := HM5.out; simp [intOf]; omega
                      · have hlt51 : ¬ (m : Int) < (y.count : Int) := by omega
                        obtain rfl : m = y.count := by omega
                        clear hlt5 hm
                        go_wp2_with (first | (go_at_call 30; refine (HCT.out _ HGW5.out).mono ?_; rintro e w0 ⟨rfl, hg0⟩; have HG0 := hide hg0; have HGA0 := hide (gb_trans HGR5.out hg0 (.inl rfl)); have HGW0 := hide (gb_trans HGW5.out hg0 (.inl rfl)); clear d0 d1 d2 d3; obtain ⟨d0, d1, d2, d3⟩ := HC4.out.gb HGW0.out; clear hg0) | (go_at_call 29; refine (HPA.out _).mono ?_; rintro e w1 ⟨rfl, hg1⟩; have HG1 := hide (gb_trans HG0.out hg1 (.inl rfl)); have HGA1 := hide (gb_trans HGA0.out hg1 (.inl rfl)); have HGW1 := hide (gb_trans HGW0.out hg1 (.inl rfl)); clear d0 d1 d2 d3; obtain ⟨d0, d1, d2, d3⟩ := HC4.out.gb HGW1.out; clear hg1))
                        go_roundw
                        case rel => exact ⟨j + 1, by go_num, by have := HLT.out; omega, by rw [HFT.out]; exact HAL5.out.gb HG1.out, HGA1.out⟩
                        case measure => have := HLT.out; simp [intOf]; omega
                  · have HPA := hide (fun w2 => (part_any y (.slice xA y.n.length xc) (.slice yA y.s.length yc) (.slice zA y.l.length zc) w2).mono (fun e w' h => (⟨h.1.trans (by rw [beq_eq_false_iff_ne.2 hpa]), h.2⟩ : e = .returned (.bool false) ∧ w2.grownBy w' none)))
                    have hex : elX y = [y] := by unfold elX; rw [if_neg hpa]
                    rw [hex, List.length_singleton] at hfl1
                    have HLE := hide (show vs.length + 1 ≤ 1200000000 by omega)
                    have HFT := hide (show flX (l.take (j + 1)) = vs ++ [y] by rw [hft1, hex])
                    clear hpa hex hfl1 hfl2 hft1 hty9
                    obtain ⟨i1, hi1, hiz, his, hib⟩ := info_parts Tryz.infoV
                    have HI1 := hide hi1
                    have HIZ := hide hiz
                    have HIS := hide his
                    have HIB := hide hib
                    clear hi1 hiz his hib
                    go_wp2_with fail
                    clear d0 d1 d2 d3
                    go_loopw [10, 12] (fun E k wq => k = .int .i64 0 ∧ RowM wa.heap.size B vs wq E ∧ wa.grownBy wq none) (fun _ _ _ => 0)
                    case atStart => exact ⟨rfl, HALL.out, HGR.out⟩
                    case round =>
                      obtain ⟨rfl, hall, hgr⟩ := hrel
                      have HAL5 := hide hall
                      have HGR5 := hide hgr
                      have HGW5 := hide (gb_trans HG.out hgr (.inl rfl))
                      clear hall hgr HALL HGR HGW
                      obtain ⟨d0, d1, d2, d3⟩ := HC4.out.gb HGW5.out
                      generalize hcn : y.count = cn at *
                      clear hcn
                      by_cases h05 : 0 < cn
                      · have h051 : (0 : Int) < (cn : Int) := by omega
                        go_upto_region 36 with (first | (go_at_call 30; refine (HCT.out _ HGW5.out).mono ?_; rintro e w0 ⟨rfl, hg0⟩; have HG0 := hide hg0; have HGA0 := hide (gb_trans HGR5.out hg0 (.inl rfl)); have HGW0 := hide (gb_trans HGW5.out hg0 (.inl rfl)); clear d0 d1 d2 d3; obtain ⟨d0, d1, d2, d3⟩ := HC4.out.gb HGW0.out; clear hg0) | (go_at_call 29; (fail_if_success (have := HG1)); refine (HPA.out _).mono ?_; rintro e w1 ⟨rfl, hg1⟩; have HG1 := hide (gb_trans HG0.out hg1 (.inl rfl)); have HGA1 := hide (gb_trans HGA0.out hg1 (.inl rfl)); have HGW1 := hide (gb_trans HGW0.out hg1 (.inl rfl)); clear d0 d1 d2 d3; obtain ⟨d0, d1, d2, d3⟩ := HC4.out.gb HGW1.out; clear hg1) | (go_at_call 29; refine (HPA.out _).mono ?_; rintro e w2 ⟨rfl, hg2⟩; have HG2 := hide (gb_trans HG1.out hg2 (.inl rfl)); have HGA2 := hide (gb_trans HGA1.out hg2 (.inl rfl)); have HGW2 := hide (gb_trans HGW1.out hg2 (.inl rfl)); clear d0 d1 d2 d3; obtain ⟨d0, d1, d2, d3⟩ := HC4.out.gb HGW2.out; clear hg2))
                        have HAL3 := hide (HAL5.out.gb HG2.out)
                        have HLE3 := hide (show vs.length + 1 ≤ 1200000000 from HLE.out)
                        clear HAL5
                        have hk7 : w2.grownBy (w2.alloc (.cells #[.int .i64 y.t, .slice xA y.n.length xc, .slice yA y.s.length yc, .slice zA y.l.length zc] 26)) none := gb_alloc (gb_refl w2 none) _
                        have HK7 := hide hk7
                        have HAL4 := hide (HAL3.out.gb hk7)
                        have HRD4 := hide (rd_lit w2 #[.int .i64 y.t, .slice xA y.n.length xc, .slice yA y.s.length yc, .slice zA y.l.length zc] 26 [.int .i64 y.t, .slice xA y.n.length xc, .slice yA y.s.length yc, .slice zA y.l.length zc] rfl)
                        have HOC4 := hide (V4_one y.t xA yA zA y.n.length y.s.length y.l.length xc yc zc)
                        have HBS4 := hide HAL4.out.hb.2
                        have HM2 : Hid ((vs).length + 1 ≤ maxLen) := hide (by unfold maxLen; have := HLE3.out; omega)
                        have HMB2 : Hid (((vs).length + 1) * 80 ≤ 140737488355328) := hide (by have := HLE3.out; omega)
                        have HMX := hide (show Mix (w2.alloc (.cells #[.int .i64 y.t, .slice xA y.n.length xc, .slice yA y.s.length yc, .slice zA y.l.length zc] 26)) B [y] [[.int .i64 y.t, .slice xA y.n.length xc, .slice yA y.s.length yc, .slice zA y.l.length zc]] [] from Mix.single (((HVB.out.gb HGW2.out HBB.out).gb HK7.out (Nat.le_trans HBB.out HGW2.out.size)).at_))
                        have HGS := hide (show ∀ b ∈ ([] : List Nat), u10.ownBlock ≠ some b from by simp)
                        have HUP := hide (show wa.grownBy w2 none from HGA2.out)
                        clear hk7
                        go_wp2_with (at_builtin
                                     obtain ⟨xs, f, how, hva, hsep⟩ := HAL4.out.p
                                     refine wpList_append_rd _ rfl (.tmp 145) (.tmp 150) 24 rfl wa.heap.size 26 i1 (.agg #[.int .i64 0, .slice none 0 0, .slice none 0 0, .slice none 0 0]) 4 80 Tryz.underlying24 HI1.out HIZ.out HIS.out HIB.out rfl (Nat.succ_pos 3) u10 (vs).length (List.flatten xs) rfl how (w2.alloc (.cells #[.int .i64 y.t, .slice xA y.n.length xc, .slice yA y.s.length yc, .slice zA y.l.length zc] 26)).heap.size (some ⟨w2.heap.size, 0, none⟩) 1 1 [.int .i64 y.t, .slice xA y.n.length xc, .slice yA y.s.length yc, .slice zA y.l.length zc] rfl rfl HRD4.out HOC4.out HM2.out HMB2.out HBS4.out ?_
                                     intro v7 w7 ho7 hg7 hb7
                                     have HFIN := hide (show RowM wa.heap.size B ((vs) ++ [y]) w7 v7 ∧ wa.grownBy w7 none from
                                       ⟨RowM.app (es := [y]) (ys := [[.int .i64 y.t, .slice xA y.n.length xc, .slice yA y.s.length yc, .slice zA y.l.length zc]]) HAL4.out.hb how hva hsep HMX.out HGS.out ho7 hg7 hb7, HAL4.out.grown (Nat.le_refl _) (gb_trans HUP.out HK7.out (.inl rfl)) hg7⟩)
                                     clear ho7 hg7 hb7 how hva hsep)
                        go_roundw
                        case rel => exact ⟨j + 1, by go_num, by have := HLT.out; omega, by rw [HFT.out]; exact HFIN.out.1, HFIN.out.2⟩
                        case measure => have := HLT.out; simp [intOf]; omega
                      · obtain rfl : cn = 0 := by omega
                        go_upto_region 36 with (first | (go_at_call 30; refine (HCT.out _ HGW5.out).mono ?_; rintro e w0 ⟨rfl, hg0⟩; have HG0 := hide hg0; have HGA0 := hide (gb_trans HGR5.out hg0 (.inl rfl)); have HGW0 := hide (gb_trans HGW5.out hg0 (.inl rfl)); clear d0 d1 d2 d3; obtain ⟨d0, d1, d2, d3⟩ := HC4.out.gb HGW0.out; clear hg0) | (go_at_call 29; refine (HPA.out _).mono ?_; rintro e w2 ⟨rfl, hg2⟩; have HG2 := hide (gb_trans HG0.out hg2 (.inl rfl)); have HGA2 := hide (gb_trans HGA0.out hg2 (.inl rfl)); have HGW2 := hide (gb_trans HGW0.out hg2 (.inl rfl)); clear d0 d1 d2 d3; obtain ⟨d0, d1, d2, d3⟩ := HC4.out.gb HGW2.out; clear hg2))
                        have HAL3 := hide (HAL5.out.gb HG2.out)
                        have HLE3 := hide (show vs.length + 1 ≤ 1200000000 from HLE.out)
                        clear HAL5
                        have hk7 : w2.grownBy (w2.alloc (.cells #[.int .i64 y.t, .slice xA y.n.length xc, .slice yA y.s.length yc, .slice zA y.l.length zc] 26)) none := gb_alloc (gb_refl w2 none) _
                        have HK7 := hide hk7
                        have HAL4 := hide (HAL3.out.gb hk7)
                        have HRD4 := hide (rd_lit w2 #[.int .i64 y.t, .slice xA y.n.length xc, .slice yA y.s.length yc, .slice zA y.l.length zc] 26 [.int .i64 y.t, .slice xA y.n.length xc, .slice yA y.s.length yc, .slice zA y.l.length zc] rfl)
                        have HOC4 := hide (V4_one y.t xA yA zA y.n.length y.s.length y.l.length xc yc zc)
                        have HBS4 := hide HAL4.out.hb.2
                        have HM2 : Hid ((vs).length + 1 ≤ maxLen) := hide (by unfold maxLen; have := HLE3.out; omega)
                        have HMB2 : Hid (((vs).length + 1) * 80 ≤ 140737488355328) := hide (by have := HLE3.out; omega)
                        have HMX := hide (show Mix (w2.alloc (.cells #[.int .i64 y.t, .slice xA y.n.length xc, .slice yA y.s.length yc, .slice zA y.l.length zc] 26)) B [y] [[.int .i64 y.t, .slice xA y.n.length xc, .slice yA y.s.length yc, .slice zA y.l.length zc]] [] from Mix.single (((HVB.out.gb HGW2.out HBB.out).gb HK7.out (Nat.le_trans HBB.out HGW2.out.size)).at_))
                        have HGS := hide (show ∀ b ∈ ([] : List Nat), u10.ownBlock ≠ some b from by simp)
                        have HUP := hide (show wa.grownBy w2 none from HGA2.out)
                        clear hk7
                        go_wp2_with (at_builtin
                                     obtain ⟨xs, f, how, hva, hsep⟩ := HAL4.out.p
                                     refine wpList_append_rd _ rfl (.tmp 145) (.tmp 150) 24 rfl wa.heap.size 26 i1 (.agg #[.int .i64 0, .slice none 0 0, .slice none 0 0, .slice none 0 0]) 4 80 Tryz.underlying24 HI1.out HIZ.out HIS.out HIB.out rfl (Nat.succ_pos 3) u10 (vs).length (List.flatten xs) rfl how (w2.alloc (.cells #[.int .i64 y.t, .slice xA y.n.length xc, .slice yA y.s.length yc, .slice zA y.l.length zc] 26)).heap.size (some ⟨w2.heap.size, 0, none⟩) 1 1 [.int .i64 y.t, .slice xA y.n.length xc, .slice yA y.s.length yc, .slice zA y.l.length zc] rfl rfl HRD4.out HOC4.out HM2.out HMB2.out HBS4.out ?_
                                     intro v7 w7 ho7 hg7 hb7
                                     have HFIN := hide (show RowM wa.heap.size B ((vs) ++ [y]) w7 v7 ∧ wa.grownBy w7 none from
                                       ⟨RowM.app (es := [y]) (ys := [[.int .i64 y.t, .slice xA y.n.length xc, .slice yA y.s.length yc, .slice zA y.l.length zc]]) HAL4.out.hb how hva hsep HMX.out HGS.out ho7 hg7 hb7, HAL4.out.grown (Nat.le_refl _) (gb_trans HUP.out HK7.out (.inl rfl)) hg7⟩)
                                     clear ho7 hg7 hb7 how hva hsep)
                        go_roundw
                        case rel => exact ⟨j + 1, by go_num, by have := HLT.out; omega, by rw [HFT.out]; exact HFIN.out.1, HFIN.out.2⟩
                        case measure => have := HLT.out; simp [intOf]; omega
                · have hlt1 : ¬ (j : Int) < (l.length : Int) := by omega
                  obtain rfl : j = l.length := by omega
                  rw [List.take_length] at hall
                  obtain ⟨uA, uc, rfl, hrd⟩ := hall.rd
                  have HOC := hide (HOF.out wr uA uc hrd)
                  have HBZ := hide (blk_keep HB.out hgr (by simp))
                  have HGW := hide (gb_trans HG.out hgr (.inl rfl))
                  have hszw := hgr.size
                  have HSW := hide (show w.heap.size < wr.heap.size by have := HSZ.out; omega)
                  clear hrd hall hgr hlt hj HOF hszw
                  generalize flX l = fs at *
                  generalize fs.length = fn at *
                  by_cases hdp : 32 < ov.depth
                  · obtain ⟨rfl, rfl⟩ := HR5.out hdp
                    have h32 : decide ((32 : Int) < (ov.depth : Int)) = true := decide_eq_true (by omega)
                    clear hdp HR4 HR5
                    generalize ov.depth = od at *
                    go_wp2_with (first
                      | (go_at_call 50; refine HOC.out.mono ?_; rintro e w5 ⟨iA, ic, jA, jc, kA, kc, f5, rfl, ho5, hn5, hg5⟩; have hga := gb_alloc (gb_refl w5 none) (.cells #[.int .i64 ov.t, .slice iA ov.n.length ic, .slice jA ov.s.length jc, .slice kA ov.l.length kc] 26); have HO5 := hide ho5; have HN5 := hide hn5; have HG5 := hide hg5; have HGA := hide hga; have HDC := hide (HDP.out (w5.alloc (.cells #[.int .i64 ov.t, .slice iA ov.n.length ic, .slice jA ov.s.length jc, .slice kA ov.l.length kc] 26)) iA ic jA jc kA kc ((ho5.vb.gb hga (Nat.le_refl _)).up hga.size)); obtain ⟨u0, u1, u2, u3⟩ := C4.box w5 (.int .i64 ov.t) (.slice iA ov.n.length ic) (.slice jA ov.s.length jc) (.slice kA ov.l.length kc) 26; clear ho5 hn5 hg5 hga)
                      | (go_at_call 51; refine HDC.out.mono ?_; rintro e w9 ⟨rfl, hg9⟩; have HG9 := hide (gb_trans HGA.out hg9 (.inl rfl)); have v0 := cell_gb u0 hg9; have v1 := cell_gb u1 hg9; have v2 := cell_gb u2 hg9; have v3 := cell_gb u3 hg9; have hr2 := blk_keep HBZ.out (gb_trans HG5.out HG9.out (.inl rfl)) (by simp); have HR2 := hide hr2; have z0 := blk_frozen hr2 0; have z1 := blk_frozen hr2 1; have z2 := blk_frozen hr2 2; have z3 := blk_frozen hr2 3; have y0 : w9.cell? ⟨w.heap.size, 0, none⟩ = some (.int .i64 0) := (by { rw [blk_cell hr2]; rfl }); have y1 : w9.cell? ⟨w.heap.size, 1, none⟩ = some (.slice none 0 0) := (by { rw [blk_cell hr2]; rfl }); have y2 : w9.cell? ⟨w.heap.size, 2, none⟩ = some (.slice none 0 0) := (by { rw [blk_cell hr2]; rfl }); have y3 : w9.cell? ⟨w.heap.size, 3, none⟩ = some (.slice none 0 0) := (by { rw [blk_cell hr2]; rfl }); clear hr2 hg9 u0 u1 u2 u3))
                    obtain ⟨m0, m1, m2, m3⟩ := C4.put HR2.out (.int .i64 0) (.slice none 0 0) (.slice none 0 0) (.slice none 0 0)
                    simp only [put4, Nat.zero_add] at m0 m1 m2 m3
                    refine bodyPost_ret (v := .tuple #[.agg #[.int .i64 0, .slice none 0 0, .slice none 0 0, .slice none 0 0], .int .i64 6]) (by simp [results, Tryz.results20, go_sem, m0, m1, m2, m3]) rfl (atN_err ⟨rfl, ?_⟩)
                    exact put4_to (gb_trans HGW.out (gb_trans HG5.out HG9.out (.inl rfl)) (.inl rfl)) (Nat.le_refl _)
                  · obtain ⟨hyv, rfl⟩ := HR4.out hdp
                    have HYV := hide hyv
                    have h32 : decide ((32 : Int) < (ov.depth : Int)) = false := decide_eq_false (by omega)
                    clear hdp HR4 HR5 hyv
                    generalize ov.depth = od at *
                    go_wp2_with (first
                      | (go_at_call 50; refine HOC.out.mono ?_; rintro e w5 ⟨iA, ic, jA, jc, kA, kc, f5, rfl, ho5, hn5, hg5⟩; have hga := gb_alloc (gb_refl w5 none) (.cells #[.int .i64 ov.t, .slice iA ov.n.length ic, .slice jA ov.s.length jc, .slice kA ov.l.length kc] 26); have HO5 := hide ho5; have HN5 := hide hn5; have HG5 := hide hg5; have HGA := hide hga; have HDC := hide (HDP.out (w5.alloc (.cells #[.int .i64 ov.t, .slice iA ov.n.length ic, .slice jA ov.s.length jc, .slice kA ov.l.length kc] 26)) iA ic jA jc kA kc ((ho5.vb.gb hga (Nat.le_refl _)).up hga.size)); obtain ⟨u0, u1, u2, u3⟩ := C4.box w5 (.int .i64 ov.t) (.slice iA ov.n.length ic) (.slice jA ov.s.length jc) (.slice kA ov.l.length kc) 26; clear ho5 hn5 hg5 hga)
                      | (go_at_call 51; refine HDC.out.mono ?_; rintro e w9 ⟨rfl, hg9⟩; have HG9 := hide (gb_trans HGA.out hg9 (.inl rfl)); have v0 := cell_gb u0 hg9; have v1 := cell_gb u1 hg9; have v2 := cell_gb u2 hg9; have v3 := cell_gb u3 hg9; have hr2 := blk_keep HBZ.out (gb_trans HG5.out HG9.out (.inl rfl)) (by simp); have HR2 := hide hr2; have z0 := blk_frozen hr2 0; have z1 := blk_frozen hr2 1; have z2 := blk_frozen hr2 2; have z3 := blk_frozen hr2 3; have y0 : w9.cell? ⟨w.heap.size, 0, none⟩ = some (.int .i64 0) := (by { rw [blk_cell hr2]; rfl }); have y1 : w9.cell? ⟨w.heap.size, 1, none⟩ = some (.slice none 0 0) := (by { rw [blk_cell hr2]; rfl }); have y2 : w9.cell? ⟨w.heap.size, 2, none⟩ = some (.slice none 0 0) := (by { rw [blk_cell hr2]; rfl }); have y3 : w9.cell? ⟨w.heap.size, 3, none⟩ = some (.slice none 0 0) := (by { rw [blk_cell hr2]; rfl }); clear hr2 hg9 u0 u1 u2 u3))
                    have hb := put_four HR2.out (.int .i64 ov.t) (.slice iA ov.n.length ic) (.slice jA ov.s.length jc) (.slice kA ov.l.length kc)
                    have m0 : ((((w9.setCell ⟨w.heap.size, 0, none⟩ (.int .i64 ov.t)).setCell ⟨w.heap.size, 1, none⟩ (.slice iA ov.n.length ic)).setCell ⟨w.heap.size, 2, none⟩ (.slice jA ov.s.length jc)).setCell ⟨w.heap.size, 3, none⟩ (.slice kA ov.l.length kc)).cell? ⟨w.heap.size, 0, none⟩ = some (.int .i64 ov.t) := (blk_cell hb 0).trans rfl
                    have m1 : ((((w9.setCell ⟨w.heap.size, 0, none⟩ (.int .i64 ov.t)).setCell ⟨w.heap.size, 1, none⟩ (.slice iA ov.n.length ic)).setCell ⟨w.heap.size, 2, none⟩ (.slice jA ov.s.length jc)).setCell ⟨w.heap.size, 3, none⟩ (.slice kA ov.l.length kc)).cell? ⟨w.heap.size, 1, none⟩ = some (.slice iA ov.n.length ic) := (blk_cell hb 1).trans rfl
                    have m2 : ((((w9.setCell ⟨w.heap.size, 0, none⟩ (.int .i64 ov.t)).setCell ⟨w.heap.size, 1, none⟩ (.slice iA ov.n.length ic)).setCell ⟨w.heap.size, 2, none⟩ (.slice jA ov.s.length jc)).setCell ⟨w.heap.size, 3, none⟩ (.slice kA ov.l.length kc)).cell? ⟨w.heap.size, 2, none⟩ = some (.slice jA ov.s.length jc) := (blk_cell hb 2).trans rfl
                    have m3 : ((((w9.setCell ⟨w.heap.size, 0, none⟩ (.int .i64 ov.t)).setCell ⟨w.heap.size, 1, none⟩ (.slice iA ov.n.length ic)).setCell ⟨w.heap.size, 2, none⟩ (.slice jA ov.s.length jc)).setCell ⟨w.heap.size, 3, none⟩ (.slice kA ov.l.length kc)).cell? ⟨w.heap.size, 3, none⟩ = some (.slice kA ov.l.length kc) := (blk_cell hb 3).trans rfl
                    refine bodyPost_ret (v := .tuple #[.agg #[.int .i64 ov.t, .slice iA ov.n.length ic, .slice jA ov.s.length jc, .slice kA ov.l.length kc], .int .i64 0]) (by simp [results, Tryz.results20, go_sem, m0, m1, m2, m3]) rfl ?_
                    have hsw := HSW.out
                    rw [HYV.out]
                    refine ⟨iA, ic, jA, jc, kA, kc, f5, rfl, VOw.keep _ _ _ (HO5.out.grow HG9.out) fun b hm => put_four_other (by have := (HN5.out.2 b hm).1; omega) _ _ _ _, ⟨HN5.out.1, fun b hb => ?_⟩, put_four_gb (gb_trans HGW.out (gb_trans HG5.out HG9.out (.inl rfl)) (.inl rfl)) (Nat.le_refl _) _ _ _ _⟩
                    have h2 := HN5.out.2 b hb
                    have h3 := HG9.out.size
                    refine ⟨by omega, ?_⟩
                    simp [World.setCell]
                    omega
            · have HAK := hide (show alkQ l (headK l) l.length = true by rw [← HK0.out]; exact hak)
              clear hak
              obtain ⟨n, hn⟩ : ∃ n, n = l.flatMap Vl.n := ⟨_, rfl⟩
              obtain ⟨s, hs⟩ : ∃ s, s = l.flatMap Vl.s := ⟨_, rfl⟩
              have HNE : Hid (l.flatMap Vl.n = n) := hide hn.symm
              have HSE : Hid (l.flatMap Vl.s = s) := hide hs.symm
              obtain ⟨hyv, rfl⟩ := R3.out HNM.out HNN.out HAK.out
              have HYV : Hid (yv = .mk k0 n s []) := hide (by rw [hyv, hn, hs, HK0.out])
              have HFN : Hid (∀ k, ((l.take k).flatMap Vl.n).length ≤ 1200000000) := hide (fun k => Nat.le_trans (flatN_le _) (Nat.le_trans (Vl.tots_take_le l k) HT.out))
              have HFS : Hid (∀ k, ((l.take k).flatMap Vl.s).length ≤ 1200000000) := hide (fun k => Nat.le_trans (flatS_le _) (Nat.le_trans (Vl.tots_take_le l k) HT.out))
              have HLP : Hid (0 < l.length) := hide (by have h9 := HAK.out; unfold alkQ at h9; rw [Bool.and_eq_true, decide_eq_true_eq] at h9; exact h9.1)
              clear hn hs hyv R1 R2 R3 R4 R5
              obtain ⟨wx, hwx⟩ : ∃ wx, wx = wr := ⟨_, rfl⟩
              rw [← hwx] at HGR3 HG3 ⊢
              clear hwx
              have hl0 := HLP.out
              obtain ⟨q, o, rA, rc, sA, sc, tA, tc, hA, hqB0, hc40, hvb0⟩ := H.out.first hl0
              subst hA
              obtain ⟨z, hz⟩ : ∃ z, z = l[0] := ⟨_, rfl⟩
              obtain ⟨d0, d1, d2, d3⟩ : C4 wx q o (.int .i64 z.t) (.slice rA z.n.length rc) (.slice sA z.s.length sc) (.slice tA z.l.length tc) := by subst hz; exact hc40.gb HG3.out
              have hkz : rkd z.t = k0 := by rw [HK0.out, headK_at hl0, hz]
              have hkzc := fun w2 => rKind_any z.t (HTY.out z (by rw [hz]; exact List.getElem_mem hl0)) (.slice rA z.n.length rc) (.slice sA z.s.length sc) (.slice tA z.l.length tc) w2
              rw [hkz] at hkzc
              have HKZ := hide hkzc
              have hl09 : l ≠ [] := by intro e; rw [e] at hl0; exact Nat.lt_irrefl 0 hl0
              clear hkzc hkz hz hc40 hvb0 hl0 hqB0
              go_wp2_with (go_at_call 48; refine (HKZ.out _).mono ?_; rintro e w1 ⟨rfl, hg1⟩; have HGX1 := hide (gb_trans HGR3.out hg1 (.inl rfl)); have HG1 := hide (gb_trans HG3.out hg1 (.inl rfl)); clear hg1)
              have HRW := hide (blk_keep HB.out HGX1.out (by simp))
              clear d0 d1 d2 d3 hl09
              obtain ⟨w5, hw5⟩ : ∃ w5, w5 = w1.alloc (.cells #[.int .i64 k0, .slice none 0 0, .slice none 0 0, .slice none 0 0] 26) := ⟨_, rfl⟩
              have HGP0 := hide (show GrowP w1 k0 [] [] none 0 none 0 w5 by rw [hw5]; exact ⟨heap_alloc_new w1 _, ⟨rfl, .inl ⟨rfl, rfl⟩⟩, ⟨rfl, .inl ⟨rfl, rfl⟩⟩, gb_alloc (gb_refl w1 none) _⟩)
              rw [← hw5]
              clear hw5
              go_loopw [9] (fun i wq => ∃ j : Nat, i = .int .i64 (j : Int) ∧ j ≤ l.length ∧ ∃ N nc S sc, GrowP w1 k0 ((l.take j).flatMap Vl.n) ((l.take j).flatMap Vl.s) N nc S sc wq) (fun i _ => l.length - (intOf i).toNat)
              case atStart => exact ⟨0, rfl, Nat.zero_le _, _, _, _, _, HGP0.out⟩
              case round =>
                obtain ⟨j, rfl, hj, N, nc, S, sc, hgp⟩ := hrel
                by_cases hlt : j < l.length
                · have hlt1 : (j : Int) < (l.length : Int) := by omega
                  have h6 : IntKind.i64.wrap ((j : Int) + 1) = ((j + 1 : Nat) : Int) := by rw [IntKind.wrap_i64]; have := HL.out; omega
                  obtain ⟨q', o', xA, xc, yA, yc, zA, zc, hA', hqB, hc4', hvb'⟩ := H.out.at_ hlt
                  simp only [Option.some.injEq, Addr.mk.injEq, and_true] at hA'
                  obtain ⟨rfl, rfl⟩ := hA'
                  obtain ⟨y, hy⟩ : ∃ y, y = l[j] := ⟨_, rfl⟩
                  have hc4 : C4 w q (o + j * 4) (.int .i64 y.t) (.slice xA y.n.length xc) (.slice yA y.s.length yc) (.slice zA y.l.length zc) := by subst hy; exact hc4'
                  have hvb : VB w B y xA xc yA yc zA zc := by subst hy; exact hvb'
                  have hf1 : (l.take (j + 1)).flatMap Vl.n = (l.take j).flatMap Vl.n ++ y.n := by subst hy; exact flatN_take l j hlt
                  have hf2 : (l.take (j + 1)).flatMap Vl.s = (l.take j).flatMap Vl.s ++ y.s := by subst hy; exact flatS_take l j hlt
                  have hn1 := HFN.out (j + 1)
                  have hs1 := HFS.out (j + 1)
                  rw [hf1, List.length_append] at hn1
                  rw [hf2, List.length_append] at hs1
                  have HF1 := hide hf1
                  have HF2 := hide hf2
                  clear hf1 hf2 hy hc4' hvb'
                  generalize hq1 : (l.take j).flatMap Vl.n = n at *
                  generalize hq2 : (l.take j).flatMap Vl.s = s at *
                  clear hq1 hq2
                  have hgw : w.grownBy wr none := gb_trans HG1.out hgp.hg (.inl rfl)
                  obtain ⟨d0, d1, d2, d3⟩ := hc4.gb hgw
                  have p1 : wr.cell? ⟨w1.heap.size, 1, none⟩ = some (.slice N n.length nc) := by rw [blk_cell hgp.hh]; rfl
                  have hwq : B ≤ wr.heap.size := Nat.le_trans HBB.out hgw.size
                  have HRN := hide ((hvb.gb hgw HBB.out).n)
                  have HRS := hide ((hvb.gb hgw HBB.out).s)
                  have HGP := hide hgp
                  have HQB := hide (show q < w1.heap.size by have := HG1.out.size; have := HBB.out; omega)
                  have HBW := hide hwq
                  have HB1 := hide (show B ≤ w1.heap.size by have := HG1.out.size; have := HBB.out; omega)
                  obtain ⟨i1, hi1, hiz, his, hib⟩ := info_parts Tryz.info64
                  have HI1 := hide hi1
                  have HIZ := hide hiz
                  have HIS := hide his
                  have HIB := hide hib
                  obtain ⟨i2, hi2, hiz2, his2, hib2⟩ := info_parts Tryz.infoS
                  have HJ1 := hide hi2
                  have HJZ := hide hiz2
                  have HJS := hide his2
                  have HJB := hide hib2
                  have HL1 : Hid ((i64s y.n).length = y.n.length * 1) := hide (by simp [i64s])
                  have HOC := hide (i64s_one y.n)
                  have HM1 : Hid (n.length + y.n.length ≤ maxLen) := hide (by unfold maxLen; omega)
                  have HMB : Hid ((n.length + y.n.length) * 8 ≤ 140737488355328) := hide (by omega)
                  have HBS : Hid (w1.heap.size + 1 ≤ wr.heap.size) := hide (by have := blk_lt hgp.hh; omega)
                  have HL2 : Hid ((strs y.s).length = y.s.length * 1) := hide (by simp [strs])
                  have HOC2 := hide (strs_one y.s)
                  have HM2 : Hid (s.length + y.s.length ≤ maxLen) := hide (by unfold maxLen; omega)
                  have HMB2 : Hid ((s.length + y.s.length) * 16 ≤ 140737488355328) := hide (by omega)
                  have HD := hide (gb_drew (gb_refl wr none))
                  have HRND := hide (HRN.out.grown HD.out HBW.out (by simp))
                  have HOND := hide (hgp.hn.kept HD.out (by cases (Value.slice N n.length nc).ownBlock <;> simp))
                  have HBSD := hide (Nat.le_trans HBS.out HD.out.size)
                  have HC4 := hide hc4
                  have HGW := hide hgw
                  clear hgp hvb hgw hwq hi1 hiz his hib hi2 hiz2 his2 hib2 hqB hc4
                  go_wp2_with fail
                  go_region_law (refine step_append_row' (by rfl) (.tmp 86) (.tmp 91) 22 (by rfl) (w1.heap.size + 1) 2 i1 (.int .i64 0) 1 8 Tryz.underlying22 HI1.out HIZ.out HIS.out HIB.out rfl (Nat.succ_pos 0) (.slice N n.length nc) n.length (i64s n) (by rfl) HOND.out B xA y.n.length xc (i64s y.n) (by rfl) HL1.out HRND.out HOC.out HM1.out HMB.out HBSD.out ?_; intro v5 w5 ho5 hg5 hb5; obtain ⟨N5, nc5, rfl, _⟩ := own_slice ho5; have HST := hide (HGP.out.num HD.out ho5 hg5); have hR5 := HST.out.1; have p1 : w5.cell? ⟨w1.heap.size, 1, none⟩ = some (.slice N n.length nc) := (by { rw [blk_cell hR5]; rfl }); have z1 := blk_frozen hR5 1; clear ho5 hg5 hb5 hR5)
                  all_goals
                    obtain ⟨hR5, hgp5, hk5, hsz5⟩ := HST.out
                    clear HST hR5
                    go_wp2_with fail
                    obtain ⟨wS, hwS⟩ : ∃ wS, wS = w5.setCell ⟨w1.heap.size, 1, none⟩ (.slice N5 (n.length + y.n.length) nc5) := ⟨_, rfl⟩
                    rw [← hwS] at hgp5 hk5 hsz5
                    rw [← hwS]
                    have hqS : wS.heap[q]? = wr.heap[q]? := hk5 q HQB.out
                    have d2 : wS.cell? ⟨q, o + j * 4 + 2, none⟩ = some (.slice yA y.s.length yc) := (World.cell?_of_block (a := ⟨q, o + j * 4 + 2, none⟩) hqS).trans (HC4.out.gb HGW.out).c2
                    have p2 : wS.cell? ⟨w1.heap.size, 2, none⟩ = some (.slice S s.length sc) := by rw [blk_cell hgp5.hh]; rfl
                    have HDS := hide (gb_drew (gb_refl wS none))
                    have HRSS := hide (HRS.out.keep fun p hp => World.cell?_of_block (hk5 p.block (Nat.lt_of_lt_of_le hp HB1.out)))
                    have HRSD := hide (HRSS.out.grown HDS.out (Nat.le_trans HBW.out hsz5) (by simp))
                    have HOSD := hide (hgp5.hs.kept HDS.out (by cases (Value.slice S s.length sc).ownBlock <;> simp))
                    have HBSS := hide (Nat.le_trans HBS.out (Nat.le_trans hsz5 HDS.out.size))
                    have HGP5 := hide hgp5
                    clear hwS hgp5 hk5 hqS p1 z1 d0 d1 d3 hsz5
                    go_region_law (refine step_append_row' (by rfl) (.tmp 95) (.tmp 100) 23 (by rfl) (w1.heap.size + 1) 9 i2 (.string ⟨#[]⟩) 1 16 Tryz.underlying23 HJ1.out HJZ.out HJS.out HJB.out rfl (Nat.succ_pos 0) (.slice S s.length sc) s.length (strs s) (by rfl) HOSD.out B yA y.s.length yc (strs y.s) (by rfl) HL2.out HRSD.out HOC2.out HM2.out HMB2.out HBSS.out ?_; intro v6 w6 ho6 hg6 hb6; obtain ⟨S6, sc6, rfl, _⟩ := own_slice ho6; have HST6 := hide (HGP5.out.str HDS.out ho6 hg6); have hR6 := HST6.out.1; have p2 : w6.cell? ⟨w1.heap.size, 2, none⟩ = some (.slice S s.length sc) := (by { rw [blk_cell hR6]; rfl }); have z2 := blk_frozen hR6 2; clear ho6 hg6 hb6 hR6)
                    all_goals
                      go_wp2_with fail
                      go_roundw
                      case rel => exact ⟨j + 1, by go_num, by omega, N5, nc5, S6, sc6, by rw [HF1.out, HF2.out]; exact HST6.out.2⟩
                      case measure => simp [intOf]; omega
                · have hlt1 : ¬ (j : Int) < (l.length : Int) := by omega
                  obtain rfl : j = l.length := by omega
                  rw [List.take_length, HNE.out, HSE.out] at hgp
                  obtain ⟨hh, hoN, hoS, hg⟩ := hgp
                  obtain ⟨_, _, hvN, hcN⟩ := own_slice hoN
                  obtain ⟨_, _, hvS, hcS⟩ := own_slice hoS
                  injection hvN with hvN1 hvN2 hvN3
                  injection hvS with hvS1 hvS2 hvS3
                  clear hvN1 hvN2 hvS1 hvS2
                  subst hvN3
                  subst hvS3
                  obtain ⟨f1, o1, q1'⟩ := Own.of_row hoN
                  obtain ⟨f2, o2, q2'⟩ := Own.of_row hoS
                  have hrr := blk_keep HRW.out hg (by simp)
                  have hn : New w1 wr (f1 ++ (f2 ++ ([] ++ []))) := by
                    refine ⟨?_, fun b hb => ?_⟩
                    · simp only [List.append_nil]
                      refine List.nodup_append.2 ⟨?_, ?_, fun x hx y hy e => ?_⟩
                      · match f1, o1.len with
                        | [], _ => simp
                        | [x], _ => simp
                      · match f2, o2.len with
                        | [], _ => simp
                        | [x], _ => simp
                      · subst e
                        have k1 := o1.blk x hx (n := n.length) (c := nc)
                        have k2 := o2.blk x hy (n := s.length) (c := sc)
                        rcases rows_apart hoN hoS (by decide) with h | h
                        · rw [h] at k1; cases k1
                        · rw [k1, k2] at h; exact h rfl
                    · simp only [List.append_nil] at hb
                      rcases List.mem_append.1 hb with hb | hb
                      · have := q1' b hb; omega
                      · have := q2' b hb; omega
                  have HVO := hide (VOw.mk_ (w := wr) (v := .mk k0 n s []) (xs := []) (lA := none) (lc := 0) ⟨hcN, hcS, Nat.le_refl _⟩ o1 o2 Own.nil_ ⟨rfl, rfl⟩)
                  have HFIN := hide (NewE.fin (x := .mk k0 n s []) (g := w.heap.size) HVO.out hn HG1.out hg (Nat.le_refl w.heap.size) (blk_lt HRW.out))
                  have HRR := hide hrr
                  obtain ⟨x0, x1, x2, x3, p0, p1, p2, p3⟩ := four_cells hrr (i := 0) (by decide)
                  have z0 := blk_frozen hrr 0
                  have z1 := blk_frozen hrr 1
                  have z2 := blk_frozen hrr 2
                  have z3 := blk_frozen hrr 3
                  obtain ⟨q0, q1, q2, q3⟩ : C4 wr w1.heap.size 0 (.int .i64 k0) (.slice N n.length nc) (.slice S s.length sc) (.slice none 0 0) := ⟨by rw [blk_cell hh]; rfl, by rw [blk_cell hh]; rfl, by rw [blk_cell hh]; rfl, by rw [blk_cell hh]; rfl⟩
                  clear hh hoN hoS hg hcN hcS o1 o2 q1' q2' hn hrr hlt hj
                  go_wp2_with fail
                  obtain ⟨m0, m1, m2, m3⟩ := C4.put HRR.out (.int .i64 k0) (.slice N n.length nc) (.slice S s.length sc) (.slice none 0 0)
                  simp only [put4, Nat.zero_add] at m0 m1 m2 m3
                  refine bodyPost_ret (v := .tuple #[.agg #[.int .i64 k0, .slice N n.length nc, .slice S s.length sc, .slice none 0 0], .int .i64 0]) (by simp [results, Tryz.results20, go_sem, m0, m1, m2, m3]) rfl ?_
                  exact (show AtN yv 0 w _ _ from by rw [HYV.out]; exact atN_tup HFIN.out)
end Go.Proofs.YtkbflmaflokpdaaGreat
