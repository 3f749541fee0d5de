/-
  The document's own Compare: its walk.
-/
import Derived.Test.YtniliccobkhnlaaXg
namespace Go.Proofs.Ytniliccobkhnlaa
open Go.RowKit
attribute [local go_sem ↓] Go.wp_at_zero Go.wp_at_succ

def RCompC (d : Nat) : Prop := ∀ (a b : Vl) (w : World) (B : Nat) (nA : Option Addr) (nc : Nat) (sA : Option Addr) (sc : Nat) (lA : Option Addr) (lc : Nat) (nA' : Option Addr) (nc' : Nat) (sA' : Option Addr) (sc' : Nat) (lA' : Option Addr) (lc' : Nat), okD d a → okD d b → a.tot ≤ 1100000 → b.tot ≤ 1100000 → B ≤ w.heap.size → VB w B a nA nc sA sc lA lc → VB w B b nA' nc' sA' sc' lA' lc' →
    Calls Try.prog 30 #[.agg #[.int .i64 a.t, .slice nA a.n.length nc, .slice sA a.s.length sc, .slice lA a.l.length lc], .agg #[.int .i64 b.t, .slice nA' b.n.length nc', .slice sA' b.s.length sc', .slice lA' b.l.length lc']] w fun e w' => e = .returned (.int .i64 (cmpV a b)) ∧ w.grownBy w' none
theorem fields_or (t : Int) : (fieldsT t).1 = false ∨ (fieldsT t).2.1 = false := by
  rcases fieldsT_cases t with e | e | e | e | e | e <;> simp [e]
theorem fields_no {v : Vl} (h : fieldsOk v = true) : ((fieldsT v.t).1 = false → v.n = []) ∧ ((fieldsT v.t).2.1 = false → v.s = []) := by
  unfold fieldsOk at h
  simp only [Bool.and_eq_true, Bool.or_eq_true, decide_eq_true_eq] at h
  rcases fieldsT_cases v.t with e | e | e | e | e | e <;> rw [e] at h ⊢ <;> simp at h ⊢ <;> simp [h]
theorem sgn_ne {a b : Int} (h : a ≠ b) : cmpI a b = if decide (a < b) = true then -1 else if true = true then 1 else 0 := by
  rw [cmpI_ne h]; simp
theorem cmpS_sgn {a b : ByteArray} (h : a ≠ b) : cmpS a b = if Op.bytesLess a.toList b.toList = true then -1 else if true = true then 1 else 0 := by
  have h1 := less_lex a.toList b.toList
  have h2 := cmpS_all.val a b
  have h3 := cmpS_all.same a b
  show lexC cmpU a.toList b.toList = _
  by_cases e : Op.bytesLess a.toList b.toList = true
  · rw [if_pos e]; exact h1.1 e
  · rw [if_neg e]
    rcases h2 with h2 | h2 | h2
    · exact absurd (h1.2 h2) e
    · exact absurd (h3.1 h2) h
    · exact h2

set_option maxHeartbeats 16000000 in
set_option maxRecDepth 100000 in
theorem rComp_d (d : Nat) : RCompC d := by
  induction d with
  | zero => intro a b w B nA nc sA sc lA lc nA' nc' sA' sc' lA' lc' h; cases h
  | succ d ih =>
    intro a b w B nA nc sA sc lA lc nA' nc' sA' sc' lA' lc' oa ob ht ht' hB h h'
    obtain ⟨a1, a2, a3, a4⟩ := Vl.lens a ht
    obtain ⟨b1, b2, b3, b4⟩ := Vl.lens b ht'
    obtain ⟨wa, hwa⟩ : ∃ wa, wa = (w.alloc (.cells #[.int .i64 a.t, .slice nA a.n.length nc, .slice sA a.s.length sc, .slice lA a.l.length lc] 26)).alloc (.cells #[.int .i64 b.t, .slice nA' b.n.length nc', .slice sA' b.s.length sc', .slice lA' b.l.length lc'] 26) := ⟨_, rfl⟩
    have hg : w.grownBy wa none := by rw [hwa]; exact gb_alloc (gb_alloc (gb_refl w none) _) _
    have hc := (C4.box w (.int .i64 a.t) (.slice nA a.n.length nc) (.slice sA a.s.length sc) (.slice lA a.l.length lc) 26).gb (gb_alloc (gb_refl _ none) (.cells #[.int .i64 b.t, .slice nA' b.n.length nc', .slice sA' b.s.length sc', .slice lA' b.l.length lc'] 26))
    have hc' := C4.box2 w (.cells #[.int .i64 a.t, .slice nA a.n.length nc, .slice sA a.s.length sc, .slice lA a.l.length lc] 26) (.int .i64 b.t) (.slice nA' b.n.length nc') (.slice sA' b.s.length sc') (.slice lA' b.l.length lc') 26
    rw [← hwa] at hc hc'
    have HCA := hide hc
    have HCB := hide hc'
    have hbw := Nat.le_trans hB hg.size
    have HVA := hide ((h.gb hg hB).up hbw)
    have HVB := hide ((h'.gb hg hB).up hbw)
    have HRA := hide (fun w2 => rRank_any a.t (.slice nA a.n.length nc) (.slice sA a.s.length sc) (.slice lA a.l.length lc) w2)
    have HRB := hide (fun w2 => rRank_any b.t (.slice nA' b.n.length nc') (.slice sA' b.s.length sc') (.slice lA' b.l.length lc') w2)
    have HTA := hide (fun w2 => rAtom_any a.t (.slice nA a.n.length nc) (.slice sA a.s.length sc) (.slice lA a.l.length lc) w2)
    have HTB := hide (fun w2 => rAtom_any b.t (.slice nA' b.n.length nc') (.slice sA' b.s.length sc') (.slice lA' b.l.length lc') w2)
    have HSG := hide (fun p q w2 => rSign_any p q w2)
    have HG := hide hg
    have HWE := hide hwa
    have HPA := hide (fun x (hx : x ∈ a.l) => Vl.tot_part ht hx)
    have HPB := hide (fun x (hx : x ∈ b.l) => Vl.tot_part ht' hx)
    have HOA := hide oa.2
    have HOB := hide ob.2
    have IH := hide ih
    have hta := ok_types oa.1
    have htb := ok_types ob.1
    have hrs := rank_same a.t hta b.t htb
    have hra := rank_atom a.t hta b.t htb
    have hfa := fields_no oa.1
    have hfb := fields_no ob.1
    have HD := hide (cmpV_def a b)
    have N0 := fun x => (cmpI_all.same x x).2 rfl
    have S0 := fun x => (cmpS_all.same x x).2 rfl
    have V0 := fun x => (cmpV_all.same x x).2 rfl
    clear ih oa ob ht ht' hB h h' hg hwa hc hc' hbw hta htb
    by_cases hr : ¬ rankT a.t = rankT b.t
    · have HZ := hide (show cmpV a b = if decide (rankT a.t < rankT b.t) = true then -1 else if true = true then 1 else 0 by
        rw [HD.out, thenC_ne (by rw [sgn_ne hr]; split <;> simp), sgn_ne hr])
      have e1 : (rankT a.t != rankT b.t) = true := int_bne_f hr
      clear hr hrs hra hfa hfb HD N0 S0 V0 IH HOA HOB HPA HPB
      generalize rankT a.t = r1 at *
      generalize rankT b.t = r2 at *
      generalize cmpV a b = z at *
      go_enter Try.func30, Try.ntmps30
      go_wp2_with fail
      rw [← HWE.out]
      refine wp_region_facts' 4 (by kernel_rfl) (by kernel_rfl) ?_
      intro A O W L HA HO HW HL
      simp only [List.take_succ_cons, List.take_zero]
      have HS := hide (show A.tmps.size = 175 by rw [HA.out]; rfl)
      have HGW := hide (show wa.grownBy W none by rw [HW.out]; exact gb_drew (gb_refl wa none))
      have A2 := hide (show A.eval (.tmp 2) = .pointer (some ⟨w.heap.size, 0, none⟩) by rw [HA.out]; rfl)
      have A3 := hide (show A.eval (.tmp 3) = .pointer (some ⟨w.heap.size + 1, 0, none⟩) by rw [HA.out]; rfl)
      -- slot 9
      refine wpFacts_lit (.agg #[.int .i64 a.t, .slice nA a.n.length nc, .slice sA a.s.length sc, .slice lA a.l.length lc]) rfl ?_ ?_
      · intro aq wq hw hl
        have e2 : aq.tmps[2]?.getD undef = .pointer (some ⟨w.heap.size, 0, none⟩) := (hl 2 (by first | (simp [Op.operands]; done) | simp [Op.operands, Call.operands]) (by rw [HS.out]; decide)).trans A2.out
        obtain ⟨c0, c1, c2, c3⟩ := HCA.out.gb (gb_trans HGW.out hw (.inl rfl))
        clear hl
        go_simp
      -- slot 10
      refine wpFacts_step (fun vq _ => vq = .int .i64 r1) rfl (Lit.up _) ?_ ?_
      · intro aq wq hw hl
        have e9 : aq.tmps[9]?.getD undef = .agg #[.int .i64 a.t, .slice nA a.n.length nc, .slice sA a.s.length sc, .slice lA a.l.length lc] := hl 9 (by first | (simp [Op.operands]; done) | simp [Op.operands, Call.operands]) (by rw [HS.out]; decide)
        clear hl
        go_simp
        exact gUpon_lit (HRA.out _)
      -- slot 11
      refine wpFacts_lit (.agg #[.int .i64 b.t, .slice nA' b.n.length nc', .slice sA' b.s.length sc', .slice lA' b.l.length lc']) rfl ?_ ?_
      · intro aq wq hw hl
        have e3 : aq.tmps[3]?.getD undef = .pointer (some ⟨w.heap.size + 1, 0, none⟩) := (hl 3 (by first | (simp [Op.operands]; done) | simp [Op.operands, Call.operands]) (by rw [HS.out]; decide)).trans A3.out
        obtain ⟨c0, c1, c2, c3⟩ := HCB.out.gb (gb_trans HGW.out hw (.inl rfl))
        clear hl
        go_simp
      -- slot 12
      refine wpFacts_step (fun vq _ => vq = .int .i64 r2) rfl (Lit.up _) ?_ ?_
      · intro aq wq hw hl
        have e11 : aq.tmps[11]?.getD undef = .agg #[.int .i64 b.t, .slice nA' b.n.length nc', .slice sA' b.s.length sc', .slice lA' b.l.length lc'] := hl 11 (by first | (simp [Op.operands]; done) | simp [Op.operands, Call.operands]) (by rw [HS.out]; decide)
        clear hl
        go_simp
        exact gUpon_lit (HRB.out _)
      refine HL.out _ (fun a' w1 hc => ?_)
      have e10 : a'.eval (.tmp 10) = .int .i64 r1 := hc.fact 10 (by rw [HS.out]; decide)
      have e12 : a'.eval (.tmp 12) = .int .i64 r2 := hc.fact 12 (by rw [HS.out]; decide)
      have hgw1 := gb_trans HGW.out hc.grown (.inl rfl)
      have hfr := hc.frame [9, 10, 11, 12, 13] (by rw [HO.out]; kernel_rfl)
      rw [hfr]
      clear hfr hc
      rw [HA.out]
      clear HA HO HL HW HS HGW A2 A3
      clear A O W L
      simp only [List.drop_succ_cons, List.drop_zero, List.foldl_cons, List.foldl_nil, Act.put, List.setIfInBounds_toArray, List.set_cons_succ, List.set_cons_zero]
      rw [e10, e12]
      generalize a'.eval (.tmp 9) = x9
      generalize a'.eval (.tmp 11) = x11
      generalize a'.eval (.tmp 13) = x13
      clear e10 e12
      clear a'
      have HCA1 := hide (HCA.out.gb hgw1)
      have HCB1 := hide (HCB.out.gb hgw1)
      have HG1 := hide hgw1
      clear hgw1
      go_wp2_with fail
      refine wp_region_facts' 6 (by kernel_rfl) (by kernel_rfl) ?_
      intro A O W L HA HO HW HL
      simp only [List.take_succ_cons, List.take_zero]
      have HS := hide (show A.tmps.size = 175 by rw [HA.out]; rfl)
      have HGW := hide (show w1.grownBy W none by rw [HW.out]; exact gb_drew (gb_refl w1 none))
      have A2 := hide (show A.eval (.tmp 2) = .pointer (some ⟨w.heap.size, 0, none⟩) by rw [HA.out]; rfl)
      have A3 := hide (show A.eval (.tmp 3) = .pointer (some ⟨w.heap.size + 1, 0, none⟩) by rw [HA.out]; rfl)
      -- slot 14
      refine wpFacts_lit (.agg #[.int .i64 a.t, .slice nA a.n.length nc, .slice sA a.s.length sc, .slice lA a.l.length lc]) rfl ?_ ?_
      · intro aq wq hw hl
        have e2 : aq.tmps[2]?.getD undef = .pointer (some ⟨w.heap.size, 0, none⟩) := (hl 2 (by first | (simp [Op.operands]; done) | simp [Op.operands, Call.operands]) (by rw [HS.out]; decide)).trans A2.out
        obtain ⟨c0, c1, c2, c3⟩ := HCA1.out.gb (gb_trans HGW.out hw (.inl rfl))
        clear hl
        go_simp
      -- slot 15
      refine wpFacts_step (fun vq _ => vq = .int .i64 r1) rfl (Lit.up _) ?_ ?_
      · intro aq wq hw hl
        have e14 : aq.tmps[14]?.getD undef = .agg #[.int .i64 a.t, .slice nA a.n.length nc, .slice sA a.s.length sc, .slice lA a.l.length lc] := hl 14 (by first | (simp [Op.operands]; done) | simp [Op.operands, Call.operands]) (by rw [HS.out]; decide)
        clear hl
        go_simp
        exact gUpon_lit (HRA.out _)
      -- slot 16
      refine wpFacts_lit (.agg #[.int .i64 b.t, .slice nA' b.n.length nc', .slice sA' b.s.length sc', .slice lA' b.l.length lc']) rfl ?_ ?_
      · intro aq wq hw hl
        have e3 : aq.tmps[3]?.getD undef = .pointer (some ⟨w.heap.size + 1, 0, none⟩) := (hl 3 (by first | (simp [Op.operands]; done) | simp [Op.operands, Call.operands]) (by rw [HS.out]; decide)).trans A3.out
        obtain ⟨c0, c1, c2, c3⟩ := HCB1.out.gb (gb_trans HGW.out hw (.inl rfl))
        clear hl
        go_simp
      -- slot 17
      refine wpFacts_step (fun vq _ => vq = .int .i64 r2) rfl (Lit.up _) ?_ ?_
      · intro aq wq hw hl
        have e16 : aq.tmps[16]?.getD undef = .agg #[.int .i64 b.t, .slice nA' b.n.length nc', .slice sA' b.s.length sc', .slice lA' b.l.length lc'] := hl 16 (by first | (simp [Op.operands]; done) | simp [Op.operands, Call.operands]) (by rw [HS.out]; decide)
        clear hl
        go_simp
        exact gUpon_lit (HRB.out _)
      -- slot 18
      refine wpFacts_lit (.bool (decide (r1 < r2))) rfl ?_ ?_
      · intro aq wq hw hl
        have e15 : aq.tmps[15]?.getD undef = .int .i64 r1 := hl 15 (by first | (simp [Op.operands]; done) | simp [Op.operands, Call.operands]) (by rw [HS.out]; decide)
        have e17 : aq.tmps[17]?.getD undef = .int .i64 r2 := hl 17 (by first | (simp [Op.operands]; done) | simp [Op.operands, Call.operands]) (by rw [HS.out]; decide)
        clear hl
        go_simp
      -- slot 19
      refine wpFacts_step (fun vq _ => vq = .int .i64 z) rfl (Lit.up _) ?_ ?_
      · intro aq wq hw hl
        have e18 : aq.tmps[18]?.getD undef = .bool (decide (r1 < r2)) := hl 18 (by first | (simp [Op.operands]; done) | simp [Op.operands, Call.operands]) (by rw [HS.out]; decide)
        clear hl
        go_simp
        exact gUpon_same ((HSG.out _ _ _).mono fun _ _ h => ⟨h.1.trans (ret_i HZ.out.symm), h.2⟩)
      refine HL.out _ (fun a' w2 hc => ?_)
      have e19 : a'.eval (.tmp 19) = .int .i64 z := hc.fact 19 (by rw [HS.out]; decide)
      have hgw2 := gb_trans HGW.out hc.grown (.inl rfl)
      have hfr := hc.frame [14, 15, 16, 17, 18, 19, 4] (by rw [HO.out]; kernel_rfl)
      rw [hfr]
      clear hfr hc
      rw [HA.out]
      clear HA HO HL HW HS HGW A2 A3
      clear A O W L
      simp only [List.drop_succ_cons, List.drop_zero, List.foldl_cons, List.foldl_nil, Act.put, List.setIfInBounds_toArray, List.set_cons_succ, List.set_cons_zero]
      rw [e19]
      generalize a'.eval (.tmp 14) = x14
      generalize a'.eval (.tmp 15) = x15
      generalize a'.eval (.tmp 16) = x16
      generalize a'.eval (.tmp 17) = x17
      generalize a'.eval (.tmp 18) = x18
      generalize a'.eval (.tmp 4) = x4
      clear e19
      clear a'
      have HG2 := hide (gb_trans HG1.out hgw2 (.inl rfl))
      clear hgw2
      go_wp2_with fail
      go_ret
      exact ⟨rfl, gb_trans HG.out HG2.out (.inl rfl)⟩
    have hr := Classical.not_not.1 hr
    have hc1 : cmpI (rankT a.t) (rankT b.t) = 0 := by rw [hr]; exact N0 _
    rw [thenC_eq hc1] at HD
    clear hc1
    have e1 : (rankT a.t != rankT b.t) = false := int_bne_t hr
    by_cases hp : ¬ rAtom a.t = rAtom b.t
    · have hz : cmpV a b = if rAtom a.t = true then -1 else 1 := by
        rw [HD.out, thenC_ne (by rw [hra hr hp]; split <;> simp), hra hr hp]
      have HZ := hide (show cmpV a b = if rAtom a.t = true then -1 else if true = true then 1 else 0 by rw [hz]; simp)
      clear hz hr hrs hra hfa hfb HD N0 S0 V0 IH HOA HOB HPA HPB
      generalize rankT a.t = r1 at *
      generalize rankT b.t = r2 at *
      generalize cmpV a b = z at *
      generalize rAtom a.t = pa at *
      generalize rAtom b.t = pb at *
      rcases (show (pa = true ∧ pb = false) ∨ (pa = false ∧ pb = true) by cases pa <;> cases pb <;> simp_all) with ⟨rfl, rfl⟩ | ⟨rfl, rfl⟩
      · clear hp
        go_enter Try.func30, Try.ntmps30
        go_wp2_with fail
        rw [← HWE.out]
        refine wp_region_facts' 4 (by kernel_rfl) (by kernel_rfl) ?_
        intro A O W L HA HO HW HL
        simp only [List.take_succ_cons, List.take_zero]
        have HS := hide (show A.tmps.size = 175 by rw [HA.out]; rfl)
        have HGW := hide (show wa.grownBy W none by rw [HW.out]; exact gb_drew (gb_refl wa none))
        have A2 := hide (show A.eval (.tmp 2) = .pointer (some ⟨w.heap.size, 0, none⟩) by rw [HA.out]; rfl)
        have A3 := hide (show A.eval (.tmp 3) = .pointer (some ⟨w.heap.size + 1, 0, none⟩) by rw [HA.out]; rfl)
        -- slot 9
        refine wpFacts_lit (.agg #[.int .i64 a.t, .slice nA a.n.length nc, .slice sA a.s.length sc, .slice lA a.l.length lc]) rfl ?_ ?_
        · intro aq wq hw hl
          have e2 : aq.tmps[2]?.getD undef = .pointer (some ⟨w.heap.size, 0, none⟩) := (hl 2 (by first | (simp [Op.operands]; done) | simp [Op.operands, Call.operands]) (by rw [HS.out]; decide)).trans A2.out
          obtain ⟨c0, c1, c2, c3⟩ := HCA.out.gb (gb_trans HGW.out hw (.inl rfl))
          clear hl
          go_simp
        -- slot 10
        refine wpFacts_step (fun vq _ => vq = .int .i64 r1) rfl (Lit.up _) ?_ ?_
        · intro aq wq hw hl
          have e9 : aq.tmps[9]?.getD undef = .agg #[.int .i64 a.t, .slice nA a.n.length nc, .slice sA a.s.length sc, .slice lA a.l.length lc] := hl 9 (by first | (simp [Op.operands]; done) | simp [Op.operands, Call.operands]) (by rw [HS.out]; decide)
          clear hl
          go_simp
          exact gUpon_lit (HRA.out _)
        -- slot 11
        refine wpFacts_lit (.agg #[.int .i64 b.t, .slice nA' b.n.length nc', .slice sA' b.s.length sc', .slice lA' b.l.length lc']) rfl ?_ ?_
        · intro aq wq hw hl
          have e3 : aq.tmps[3]?.getD undef = .pointer (some ⟨w.heap.size + 1, 0, none⟩) := (hl 3 (by first | (simp [Op.operands]; done) | simp [Op.operands, Call.operands]) (by rw [HS.out]; decide)).trans A3.out
          obtain ⟨c0, c1, c2, c3⟩ := HCB.out.gb (gb_trans HGW.out hw (.inl rfl))
          clear hl
          go_simp
        -- slot 12
        refine wpFacts_step (fun vq _ => vq = .int .i64 r2) rfl (Lit.up _) ?_ ?_
        · intro aq wq hw hl
          have e11 : aq.tmps[11]?.getD undef = .agg #[.int .i64 b.t, .slice nA' b.n.length nc', .slice sA' b.s.length sc', .slice lA' b.l.length lc'] := hl 11 (by first | (simp [Op.operands]; done) | simp [Op.operands, Call.operands]) (by rw [HS.out]; decide)
          clear hl
          go_simp
          exact gUpon_lit (HRB.out _)
        refine HL.out _ (fun a' w1 hc => ?_)
        have e10 : a'.eval (.tmp 10) = .int .i64 r1 := hc.fact 10 (by rw [HS.out]; decide)
        have e12 : a'.eval (.tmp 12) = .int .i64 r2 := hc.fact 12 (by rw [HS.out]; decide)
        have hgw1 := gb_trans HGW.out hc.grown (.inl rfl)
        have hfr := hc.frame [9, 10, 11, 12, 13] (by rw [HO.out]; kernel_rfl)
        rw [hfr]
        clear hfr hc
        rw [HA.out]
        clear HA HO HL HW HS HGW A2 A3
        clear A O W L
        simp only [List.drop_succ_cons, List.drop_zero, List.foldl_cons, List.foldl_nil, Act.put, List.setIfInBounds_toArray, List.set_cons_succ, List.set_cons_zero]
        rw [e10, e12]
        generalize a'.eval (.tmp 9) = x9
        generalize a'.eval (.tmp 11) = x11
        generalize a'.eval (.tmp 13) = x13
        clear e10 e12
        clear a'
        have HCA1 := hide (HCA.out.gb hgw1)
        have HCB1 := hide (HCB.out.gb hgw1)
        have HG1 := hide hgw1
        clear hgw1
        go_wp2_with fail
        refine wp_region_facts' 4 (by kernel_rfl) (by kernel_rfl) ?_
        intro A O W L HA HO HW HL
        simp only [List.take_succ_cons, List.take_zero]
        have HS := hide (show A.tmps.size = 175 by rw [HA.out]; rfl)
        have HGW := hide (show w1.grownBy W none by rw [HW.out]; exact gb_drew (gb_refl w1 none))
        have A2 := hide (show A.eval (.tmp 2) = .pointer (some ⟨w.heap.size, 0, none⟩) by rw [HA.out]; rfl)
        have A3 := hide (show A.eval (.tmp 3) = .pointer (some ⟨w.heap.size + 1, 0, none⟩) by rw [HA.out]; rfl)
        -- slot 20
        refine wpFacts_lit (.agg #[.int .i64 a.t, .slice nA a.n.length nc, .slice sA a.s.length sc, .slice lA a.l.length lc]) rfl ?_ ?_
        · intro aq wq hw hl
          have e2 : aq.tmps[2]?.getD undef = .pointer (some ⟨w.heap.size, 0, none⟩) := (hl 2 (by first | (simp [Op.operands]; done) | simp [Op.operands, Call.operands]) (by rw [HS.out]; decide)).trans A2.out
          obtain ⟨c0, c1, c2, c3⟩ := HCA1.out.gb (gb_trans HGW.out hw (.inl rfl))
          clear hl
          go_simp
        -- slot 21
        refine wpFacts_step (fun vq _ => vq = .bool true) rfl (Lit.up _) ?_ ?_
        · intro aq wq hw hl
          have e20 : aq.tmps[20]?.getD undef = .agg #[.int .i64 a.t, .slice nA a.n.length nc, .slice sA a.s.length sc, .slice lA a.l.length lc] := hl 20 (by first | (simp [Op.operands]; done) | simp [Op.operands, Call.operands]) (by rw [HS.out]; decide)
          clear hl
          go_simp
          exact gUpon_lit (HTA.out _)
        -- slot 22
        refine wpFacts_lit (.agg #[.int .i64 b.t, .slice nA' b.n.length nc', .slice sA' b.s.length sc', .slice lA' b.l.length lc']) rfl ?_ ?_
        · intro aq wq hw hl
          have e3 : aq.tmps[3]?.getD undef = .pointer (some ⟨w.heap.size + 1, 0, none⟩) := (hl 3 (by first | (simp [Op.operands]; done) | simp [Op.operands, Call.operands]) (by rw [HS.out]; decide)).trans A3.out
          obtain ⟨c0, c1, c2, c3⟩ := HCB1.out.gb (gb_trans HGW.out hw (.inl rfl))
          clear hl
          go_simp
        -- slot 23
        refine wpFacts_step (fun vq _ => vq = .bool false) rfl (Lit.up _) ?_ ?_
        · intro aq wq hw hl
          have e22 : aq.tmps[22]?.getD undef = .agg #[.int .i64 b.t, .slice nA' b.n.length nc', .slice sA' b.s.length sc', .slice lA' b.l.length lc'] := hl 22 (by first | (simp [Op.operands]; done) | simp [Op.operands, Call.operands]) (by rw [HS.out]; decide)
          clear hl
          go_simp
          exact gUpon_lit (HTB.out _)
        refine HL.out _ (fun a' w3 hc => ?_)
        have e21 : a'.eval (.tmp 21) = .bool true := hc.fact 21 (by rw [HS.out]; decide)
        have e23 : a'.eval (.tmp 23) = .bool false := hc.fact 23 (by rw [HS.out]; decide)
        have hgw3 := gb_trans HGW.out hc.grown (.inl rfl)
        have hfr := hc.frame [20, 21, 22, 23, 24] (by rw [HO.out]; kernel_rfl)
        rw [hfr]
        clear hfr hc
        rw [HA.out]
        clear HA HO HL HW HS HGW A2 A3
        clear A O W L
        simp only [List.drop_succ_cons, List.drop_zero, List.foldl_cons, List.foldl_nil, Act.put, List.setIfInBounds_toArray, List.set_cons_succ, List.set_cons_zero]
        rw [e21, e23]
        generalize a'.eval (.tmp 20) = x20
        generalize a'.eval (.tmp 22) = x22
        generalize a'.eval (.tmp 24) = x24
        clear e21 e23
        clear a'
        have HCA3 := hide (HCA1.out.gb hgw3)
        have HG3 := hide (gb_trans HG1.out hgw3 (.inl rfl))
        clear hgw3
        obtain ⟨q0, q1, q2, q3⟩ := HCA3.out
        go_wp2_with (first
          | (go_at_call 18; refine (HTA.out _).mono ?_; rintro e w4 ⟨rfl, hg4⟩; have HG4 := hide hg4; clear hg4)
          | (go_at_call 64; refine (HSG.out _ _ _).mono ?_; rintro e wq ⟨rfl, rfl⟩))
        go_ret
        exact ⟨ret_i (by first | exact HZ.out.symm | (rw [HZ.out]; rfl) | (rw [HZ.out]; simp)), gb_trans HG.out (gb_trans HG3.out HG4.out (.inl rfl)) (.inl rfl)⟩
      · clear hp
        go_enter Try.func30, Try.ntmps30
        go_wp2_with fail
        rw [← HWE.out]
        refine wp_region_facts' 4 (by kernel_rfl) (by kernel_rfl) ?_
        intro A O W L HA HO HW HL
        simp only [List.take_succ_cons, List.take_zero]
        have HS := hide (show A.tmps.size = 175 by rw [HA.out]; rfl)
        have HGW := hide (show wa.grownBy W none by rw [HW.out]; exact gb_drew (gb_refl wa none))
        have A2 := hide (show A.eval (.tmp 2) = .pointer (some ⟨w.heap.size, 0, none⟩) by rw [HA.out]; rfl)
        have A3 := hide (show A.eval (.tmp 3) = .pointer (some ⟨w.heap.size + 1, 0, none⟩) by rw [HA.out]; rfl)
        -- slot 9
        refine wpFacts_lit (.agg #[.int .i64 a.t, .slice nA a.n.length nc, .slice sA a.s.length sc, .slice lA a.l.length lc]) rfl ?_ ?_
        · intro aq wq hw hl
          have e2 : aq.tmps[2]?.getD undef = .pointer (some ⟨w.heap.size, 0, none⟩) := (hl 2 (by first | (simp [Op.operands]; done) | simp [Op.operands, Call.operands]) (by rw [HS.out]; decide)).trans A2.out
          obtain ⟨c0, c1, c2, c3⟩ := HCA.out.gb (gb_trans HGW.out hw (.inl rfl))
          clear hl
          go_simp
        -- slot 10
        refine wpFacts_step (fun vq _ => vq = .int .i64 r1) rfl (Lit.up _) ?_ ?_
        · intro aq wq hw hl
          have e9 : aq.tmps[9]?.getD undef = .agg #[.int .i64 a.t, .slice nA a.n.length nc, .slice sA a.s.length sc, .slice lA a.l.length lc] := hl 9 (by first | (simp [Op.operands]; done) | simp [Op.operands, Call.operands]) (by rw [HS.out]; decide)
          clear hl
          go_simp
          exact gUpon_lit (HRA.out _)
        -- slot 11
        refine wpFacts_lit (.agg #[.int .i64 b.t, .slice nA' b.n.length nc', .slice sA' b.s.length sc', .slice lA' b.l.length lc']) rfl ?_ ?_
        · intro aq wq hw hl
          have e3 : aq.tmps[3]?.getD undef = .pointer (some ⟨w.heap.size + 1, 0, none⟩) := (hl 3 (by first | (simp [Op.operands]; done) | simp [Op.operands, Call.operands]) (by rw [HS.out]; decide)).trans A3.out
          obtain ⟨c0, c1, c2, c3⟩ := HCB.out.gb (gb_trans HGW.out hw (.inl rfl))
          clear hl
          go_simp
        -- slot 12
        refine wpFacts_step (fun vq _ => vq = .int .i64 r2) rfl (Lit.up _) ?_ ?_
        · intro aq wq hw hl
          have e11 : aq.tmps[11]?.getD undef = .agg #[.int .i64 b.t, .slice nA' b.n.length nc', .slice sA' b.s.length sc', .slice lA' b.l.length lc'] := hl 11 (by first | (simp [Op.operands]; done) | simp [Op.operands, Call.operands]) (by rw [HS.out]; decide)
          clear hl
          go_simp
          exact gUpon_lit (HRB.out _)
        refine HL.out _ (fun a' w1 hc => ?_)
        have e10 : a'.eval (.tmp 10) = .int .i64 r1 := hc.fact 10 (by rw [HS.out]; decide)
        have e12 : a'.eval (.tmp 12) = .int .i64 r2 := hc.fact 12 (by rw [HS.out]; decide)
        have hgw1 := gb_trans HGW.out hc.grown (.inl rfl)
        have hfr := hc.frame [9, 10, 11, 12, 13] (by rw [HO.out]; kernel_rfl)
        rw [hfr]
        clear hfr hc
        rw [HA.out]
        clear HA HO HL HW HS HGW A2 A3
        clear A O W L
        simp only [List.drop_succ_cons, List.drop_zero, List.foldl_cons, List.foldl_nil, Act.put, List.setIfInBounds_toArray, List.set_cons_succ, List.set_cons_zero]
        rw [e10, e12]
        generalize a'.eval (.tmp 9) = x9
        generalize a'.eval (.tmp 11) = x11
        generalize a'.eval (.tmp 13) = x13
        clear e10 e12
        clear a'
        have HCA1 := hide (HCA.out.gb hgw1)
        have HCB1 := hide (HCB.out.gb hgw1)
        have HG1 := hide hgw1
        clear hgw1
        go_wp2_with fail
        refine wp_region_facts' 4 (by kernel_rfl) (by kernel_rfl) ?_
        intro A O W L HA HO HW HL
        simp only [List.take_succ_cons, List.take_zero]
        have HS := hide (show A.tmps.size = 175 by rw [HA.out]; rfl)
        have HGW := hide (show w1.grownBy W none by rw [HW.out]; exact gb_drew (gb_refl w1 none))
        have A2 := hide (show A.eval (.tmp 2) = .pointer (some ⟨w.heap.size, 0, none⟩) by rw [HA.out]; rfl)
        have A3 := hide (show A.eval (.tmp 3) = .pointer (some ⟨w.heap.size + 1, 0, none⟩) by rw [HA.out]; rfl)
        -- slot 20
        refine wpFacts_lit (.agg #[.int .i64 a.t, .slice nA a.n.length nc, .slice sA a.s.length sc, .slice lA a.l.length lc]) rfl ?_ ?_
        · intro aq wq hw hl
          have e2 : aq.tmps[2]?.getD undef = .pointer (some ⟨w.heap.size, 0, none⟩) := (hl 2 (by first | (simp [Op.operands]; done) | simp [Op.operands, Call.operands]) (by rw [HS.out]; decide)).trans A2.out
          obtain ⟨c0, c1, c2, c3⟩ := HCA1.out.gb (gb_trans HGW.out hw (.inl rfl))
          clear hl
          go_simp
        -- slot 21
        refine wpFacts_step (fun vq _ => vq = .bool false) rfl (Lit.up _) ?_ ?_
        · intro aq wq hw hl
          have e20 : aq.tmps[20]?.getD undef = .agg #[.int .i64 a.t, .slice nA a.n.length nc, .slice sA a.s.length sc, .slice lA a.l.length lc] := hl 20 (by first | (simp [Op.operands]; done) | simp [Op.operands, Call.operands]) (by rw [HS.out]; decide)
          clear hl
          go_simp
          exact gUpon_lit (HTA.out _)
        -- slot 22
        refine wpFacts_lit (.agg #[.int .i64 b.t, .slice nA' b.n.length nc', .slice sA' b.s.length sc', .slice lA' b.l.length lc']) rfl ?_ ?_
        · intro aq wq hw hl
          have e3 : aq.tmps[3]?.getD undef = .pointer (some ⟨w.heap.size + 1, 0, none⟩) := (hl 3 (by first | (simp [Op.operands]; done) | simp [Op.operands, Call.operands]) (by rw [HS.out]; decide)).trans A3.out
          obtain ⟨c0, c1, c2, c3⟩ := HCB1.out.gb (gb_trans HGW.out hw (.inl rfl))
          clear hl
          go_simp
        -- slot 23
        refine wpFacts_step (fun vq _ => vq = .bool true) rfl (Lit.up _) ?_ ?_
        · intro aq wq hw hl
          have e22 : aq.tmps[22]?.getD undef = .agg #[.int .i64 b.t, .slice nA' b.n.length nc', .slice sA' b.s.length sc', .slice lA' b.l.length lc'] := hl 22 (by first | (simp [Op.operands]; done) | simp [Op.operands, Call.operands]) (by rw [HS.out]; decide)
          clear hl
          go_simp
          exact gUpon_lit (HTB.out _)
        refine HL.out _ (fun a' w3 hc => ?_)
        have e21 : a'.eval (.tmp 21) = .bool false := hc.fact 21 (by rw [HS.out]; decide)
        have e23 : a'.eval (.tmp 23) = .bool true := hc.fact 23 (by rw [HS.out]; decide)
        have hgw3 := gb_trans HGW.out hc.grown (.inl rfl)
        have hfr := hc.frame [20, 21, 22, 23, 24] (by rw [HO.out]; kernel_rfl)
        rw [hfr]
        clear hfr hc
        rw [HA.out]
        clear HA HO HL HW HS HGW A2 A3
        clear A O W L
        simp only [List.drop_succ_cons, List.drop_zero, List.foldl_cons, List.foldl_nil, Act.put, List.setIfInBounds_toArray, List.set_cons_succ, List.set_cons_zero]
        rw [e21, e23]
        generalize a'.eval (.tmp 20) = x20
        generalize a'.eval (.tmp 22) = x22
        generalize a'.eval (.tmp 24) = x24
        clear e21 e23
        clear a'
        have HCA3 := hide (HCA1.out.gb hgw3)
        have HG3 := hide (gb_trans HG1.out hgw3 (.inl rfl))
        clear hgw3
        obtain ⟨q0, q1, q2, q3⟩ := HCA3.out
        go_wp2_with (first
          | (go_at_call 18; refine (HTA.out _).mono ?_; rintro e w4 ⟨rfl, hg4⟩; have HG4 := hide hg4; clear hg4)
          | (go_at_call 64; refine (HSG.out _ _ _).mono ?_; rintro e wq ⟨rfl, rfl⟩))
        go_ret
        exact ⟨ret_i (by first | exact HZ.out.symm | (rw [HZ.out]; rfl) | (rw [HZ.out]; simp)), gb_trans HG.out (gb_trans HG3.out HG4.out (.inl rfl)) (.inl rfl)⟩
    have hp := Classical.not_not.1 hp
    have htt := hrs hr hp
    have hc2 : cmpI a.t b.t = 0 := by rw [htt]; exact N0 _
    rw [thenC_eq hc2] at HD
    have hdis : (a.n = [] ∧ b.n = []) ∨ (a.s = [] ∧ b.s = []) := by
      rw [htt] at hfa
      rcases fields_or b.t with h1 | h1
      · exact .inl ⟨hfa.1 h1, hfb.1 h1⟩
      · exact .inr ⟨hfa.2 h1, hfb.2 h1⟩
    have HZn : Hid (∀ (j : Nat) (h1 : j < a.n.length) (h2 : j < b.n.length), a.n.take j = b.n.take j → a.n[j] ≠ b.n[j] → cmpV a b = if decide (a.n[j] < b.n[j]) = true then -1 else if true = true then 1 else 0) := hide (fun j h1 h2 he hx => by
      have e := lexC_ne N0 he h1 h2 (by rw [sgn_ne hx]; split <;> simp)
      rw [HD.out, thenC_ne (by rw [e, sgn_ne hx]; split <;> simp), e, sgn_ne hx])
    have HZs : Hid (∀ (j : Nat) (h1 : j < a.s.length) (h2 : j < b.s.length), a.s.take j = b.s.take j → a.s[j] ≠ b.s[j] → cmpV a b = if Op.bytesLess a.s[j].toList b.s[j].toList = true then -1 else if true = true then 1 else 0) := hide (fun j h1 h2 he hx => by
      have hn : a.n = [] ∧ b.n = [] := by
        rcases hdis with h | h
        · exact h
        · rw [h.1] at h1; simp at h1
      have e := lexC_ne S0 he h1 h2 (by rw [cmpS_sgn hx]; split <;> simp)
      rw [HD.out, hn.1, hn.2, thenC_eq (show lexC cmpI [] [] = 0 from rfl), thenC_ne (by rw [e, cmpS_sgn hx]; split <;> simp), e, cmpS_sgn hx])
    clear hrs hra hfa hfb hc2 hp
    have hpp : rAtom b.t = rAtom a.t := by rw [htt]
    rw [hpp] at HTB
    clear hpp htt hr
    have e2 : (rAtom a.t != rAtom a.t) = false := by simp
    generalize rankT a.t = r1 at *
    generalize rankT b.t = r2 at *
    generalize rAtom a.t = pa at *
    by_cases hnl : a.n.length < b.n.length
    · have HS0 : Hid (a.s.length = 0) := hide (by
        rcases hdis with h | h
        · rw [h.2] at hnl; simp at hnl
        · rw [h.1]; rfl)
      clear hdis
      go_enter Try.func30, Try.ntmps30
      go_wp2_with fail
      rw [← HWE.out]
      refine wp_region_facts' 4 (by kernel_rfl) (by kernel_rfl) ?_
      intro A O W L HA HO HW HL
      simp only [List.take_succ_cons, List.take_zero]
      have HS := hide (show A.tmps.size = 175 by rw [HA.out]; rfl)
      have HGW := hide (show wa.grownBy W none by rw [HW.out]; exact gb_drew (gb_refl wa none))
      have A2 := hide (show A.eval (.tmp 2) = .pointer (some ⟨w.heap.size, 0, none⟩) by rw [HA.out]; rfl)
      have A3 := hide (show A.eval (.tmp 3) = .pointer (some ⟨w.heap.size + 1, 0, none⟩) by rw [HA.out]; rfl)
      -- slot 9
      refine wpFacts_lit (.agg #[.int .i64 a.t, .slice nA a.n.length nc, .slice sA a.s.length sc, .slice lA a.l.length lc]) rfl ?_ ?_
      · intro aq wq hw hl
        have e2 : aq.tmps[2]?.getD undef = .pointer (some ⟨w.heap.size, 0, none⟩) := (hl 2 (by first | (simp [Op.operands]; done) | simp [Op.operands, Call.operands]) (by rw [HS.out]; decide)).trans A2.out
        obtain ⟨c0, c1, c2, c3⟩ := HCA.out.gb (gb_trans HGW.out hw (.inl rfl))
        clear hl
        go_simp
      -- slot 10
      refine wpFacts_step (fun vq _ => vq = .int .i64 r1) rfl (Lit.up _) ?_ ?_
      · intro aq wq hw hl
        have e9 : aq.tmps[9]?.getD undef = .agg #[.int .i64 a.t, .slice nA a.n.length nc, .slice sA a.s.length sc, .slice lA a.l.length lc] := hl 9 (by first | (simp [Op.operands]; done) | simp [Op.operands, Call.operands]) (by rw [HS.out]; decide)
        clear hl
        go_simp
        exact gUpon_lit (HRA.out _)
      -- slot 11
      refine wpFacts_lit (.agg #[.int .i64 b.t, .slice nA' b.n.length nc', .slice sA' b.s.length sc', .slice lA' b.l.length lc']) rfl ?_ ?_
      · intro aq wq hw hl
        have e3 : aq.tmps[3]?.getD undef = .pointer (some ⟨w.heap.size + 1, 0, none⟩) := (hl 3 (by first | (simp [Op.operands]; done) | simp [Op.operands, Call.operands]) (by rw [HS.out]; decide)).trans A3.out
        obtain ⟨c0, c1, c2, c3⟩ := HCB.out.gb (gb_trans HGW.out hw (.inl rfl))
        clear hl
        go_simp
      -- slot 12
      refine wpFacts_step (fun vq _ => vq = .int .i64 r2) rfl (Lit.up _) ?_ ?_
      · intro aq wq hw hl
        have e11 : aq.tmps[11]?.getD undef = .agg #[.int .i64 b.t, .slice nA' b.n.length nc', .slice sA' b.s.length sc', .slice lA' b.l.length lc'] := hl 11 (by first | (simp [Op.operands]; done) | simp [Op.operands, Call.operands]) (by rw [HS.out]; decide)
        clear hl
        go_simp
        exact gUpon_lit (HRB.out _)
      refine HL.out _ (fun a' w1 hc => ?_)
      have e10 : a'.eval (.tmp 10) = .int .i64 r1 := hc.fact 10 (by rw [HS.out]; decide)
      have e12 : a'.eval (.tmp 12) = .int .i64 r2 := hc.fact 12 (by rw [HS.out]; decide)
      have hgw1 := gb_trans HGW.out hc.grown (.inl rfl)
      have hfr := hc.frame [9, 10, 11, 12, 13] (by rw [HO.out]; kernel_rfl)
      rw [hfr]
      clear hfr hc
      rw [HA.out]
      clear HA HO HL HW HS HGW A2 A3
      clear A O W L
      simp only [List.drop_succ_cons, List.drop_zero, List.foldl_cons, List.foldl_nil, Act.put, List.setIfInBounds_toArray, List.set_cons_succ, List.set_cons_zero]
      rw [e10, e12]
      generalize a'.eval (.tmp 9) = x9
      generalize a'.eval (.tmp 11) = x11
      generalize a'.eval (.tmp 13) = x13
      clear e10 e12
      clear a'
      have HCA1 := hide (HCA.out.gb hgw1)
      have HCB1 := hide (HCB.out.gb hgw1)
      have HG1 := hide hgw1
      clear hgw1
      go_wp2_with fail
      refine wp_region_facts' 4 (by kernel_rfl) (by kernel_rfl) ?_
      intro A O W L HA HO HW HL
      simp only [List.take_succ_cons, List.take_zero]
      have HS := hide (show A.tmps.size = 175 by rw [HA.out]; rfl)
      have HGW := hide (show w1.grownBy W none by rw [HW.out]; exact gb_drew (gb_refl w1 none))
      have A2 := hide (show A.eval (.tmp 2) = .pointer (some ⟨w.heap.size, 0, none⟩) by rw [HA.out]; rfl)
      have A3 := hide (show A.eval (.tmp 3) = .pointer (some ⟨w.heap.size + 1, 0, none⟩) by rw [HA.out]; rfl)
      -- slot 20
      refine wpFacts_lit (.agg #[.int .i64 a.t, .slice nA a.n.length nc, .slice sA a.s.length sc, .slice lA a.l.length lc]) rfl ?_ ?_
      · intro aq wq hw hl
        have e2 : aq.tmps[2]?.getD undef = .pointer (some ⟨w.heap.size, 0, none⟩) := (hl 2 (by first | (simp [Op.operands]; done) | simp [Op.operands, Call.operands]) (by rw [HS.out]; decide)).trans A2.out
        obtain ⟨c0, c1, c2, c3⟩ := HCA1.out.gb (gb_trans HGW.out hw (.inl rfl))
        clear hl
        go_simp
      -- slot 21
      refine wpFacts_step (fun vq _ => vq = .bool pa) rfl (Lit.up _) ?_ ?_
      · intro aq wq hw hl
        have e20 : aq.tmps[20]?.getD undef = .agg #[.int .i64 a.t, .slice nA a.n.length nc, .slice sA a.s.length sc, .slice lA a.l.length lc] := hl 20 (by first | (simp [Op.operands]; done) | simp [Op.operands, Call.operands]) (by rw [HS.out]; decide)
        clear hl
        go_simp
        exact gUpon_lit (HTA.out _)
      -- slot 22
      refine wpFacts_lit (.agg #[.int .i64 b.t, .slice nA' b.n.length nc', .slice sA' b.s.length sc', .slice lA' b.l.length lc']) rfl ?_ ?_
      · intro aq wq hw hl
        have e3 : aq.tmps[3]?.getD undef = .pointer (some ⟨w.heap.size + 1, 0, none⟩) := (hl 3 (by first | (simp [Op.operands]; done) | simp [Op.operands, Call.operands]) (by rw [HS.out]; decide)).trans A3.out
        obtain ⟨c0, c1, c2, c3⟩ := HCB1.out.gb (gb_trans HGW.out hw (.inl rfl))
        clear hl
        go_simp
      -- slot 23
      refine wpFacts_step (fun vq _ => vq = .bool pa) rfl (Lit.up _) ?_ ?_
      · intro aq wq hw hl
        have e22 : aq.tmps[22]?.getD undef = .agg #[.int .i64 b.t, .slice nA' b.n.length nc', .slice sA' b.s.length sc', .slice lA' b.l.length lc'] := hl 22 (by first | (simp [Op.operands]; done) | simp [Op.operands, Call.operands]) (by rw [HS.out]; decide)
        clear hl
        go_simp
        exact gUpon_lit (HTB.out _)
      refine HL.out _ (fun a' w3 hc => ?_)
      have e21 : a'.eval (.tmp 21) = .bool pa := hc.fact 21 (by rw [HS.out]; decide)
      have e23 : a'.eval (.tmp 23) = .bool pa := hc.fact 23 (by rw [HS.out]; decide)
      have hgw3 := gb_trans HGW.out hc.grown (.inl rfl)
      have hfr := hc.frame [20, 21, 22, 23, 24] (by rw [HO.out]; kernel_rfl)
      rw [hfr]
      clear hfr hc
      rw [HA.out]
      clear HA HO HL HW HS HGW A2 A3
      clear A O W L
      simp only [List.drop_succ_cons, List.drop_zero, List.foldl_cons, List.foldl_nil, Act.put, List.setIfInBounds_toArray, List.set_cons_succ, List.set_cons_zero]
      rw [e21, e23]
      generalize a'.eval (.tmp 20) = x20
      generalize a'.eval (.tmp 22) = x22
      generalize a'.eval (.tmp 24) = x24
      clear e21 e23
      clear a'
      have HCA3 := hide (HCA1.out.gb hgw3)
      have HCB3 := hide (HCB1.out.gb hgw3)
      have HG3 := hide (gb_trans HG1.out hgw3 (.inl rfl))
      have HGA3 := hide (gb_trans HG.out HG3.out (.inl rfl))
      have HVA := hide ((HVA.out.gb HG3.out (Nat.le_refl _)).up HG3.out.size)
      have HVB := hide ((HVB.out.gb HG3.out (Nat.le_refl _)).up HG3.out.size)
      clear hgw3
      go_wp2_with fail
      go_loopw [5] (fun i wr => ∃ j : Nat, i = .int .i64 (j : Int) ∧ j ≤ a.n.length ∧ j ≤ b.n.length ∧ Hid (a.n.take j = b.n.take j) ∧ w3.grownBy wr none) (fun i _ => a.n.length - (intOf i).toNat)
      case atStart => exact ⟨0, rfl, by omega, by omega, hide rfl, gb_refl w3 none⟩
      case round =>
        obtain ⟨j, rfl, hj, hj2, HE, hgr⟩ := hrel
        obtain ⟨q0, q1, q2, q3⟩ := HCA3.out.gb hgr
        obtain ⟨k0, k1, k2, k3⟩ := HCB3.out.gb hgr
        have HGRn := hide hgr
        by_cases hin : j < a.n.length ∧ j < b.n.length
        · have hlt := hin.1
          have hltm := hin.2
          have hlt1 : (j : Int) < (a.n.length : Int) := by omega
          have hlt2 : (j : Int) < (b.n.length : Int) := by omega
          obtain ⟨ad, rfl, _, ca⟩ := ((HVA.out.gb hgr (Nat.le_refl _)).n).i64 hlt
          obtain ⟨ad', rfl, _, ca'⟩ := ((HVB.out.gb hgr (Nat.le_refl _)).n).i64 hltm
          by_cases hx : a.n[j] = b.n[j]
          · have hx1 : (a.n[j] != b.n[j]) = false := int_bne_t hx
            have HT := hide (take_eq_step HE.out hlt hltm hx)
            clear hx hin hgr
            go_wp2_with fail
            go_quiet (fail)
            go_wp2_with fail
            go_roundw
            case rel => exact ⟨j + 1, by go_num, by omega, by omega, HT, gb_drewN HGRn.out _⟩
            case measure => simp [intOf]; omega
          · have hx1 : (a.n[j] != b.n[j]) = true := int_bne_f hx
            have HZ := hide (HZn.out j hlt hltm HE.out hx)
            clear hx hin
            go_wp2_with fail
            go_quiet (fail)
            go_wp2_with fail
            obtain ⟨w9, hw9⟩ : ∃ w9, w9 = wr.drewN nq := ⟨_, rfl⟩
            have HW9 := hide (show wr.grownBy w9 none by rw [hw9]; exact gb_drewN (gb_refl wr none) nq)
            rw [← hw9]
            have q0 := cell_gb q0 HW9.out
            have q1 := cell_gb q1 HW9.out
            have q2 := cell_gb q2 HW9.out
            have q3 := cell_gb q3 HW9.out
            have k0 := cell_gb k0 HW9.out
            have k1 := cell_gb k1 HW9.out
            have k2 := cell_gb k2 HW9.out
            have k3 := cell_gb k3 HW9.out
            have ca := cell_gb ca HW9.out
            have ca' := cell_gb ca' HW9.out
            have HGR9 := hide (gb_trans HGRn.out HW9.out (.inl rfl))
            clear hw9 hgr
            go_quiet ((go_at_call 64; with_reducible exact quiet_l (HSG.out _ _ _)))
            go_wp2_with fail
            all_goals
              go_ret
              exact ⟨ret_i (by rw [HZ.out]; first | (rw [if_pos h]; done) | (rw [if_neg h]; simp; done) | simp), gb_trans HGA3.out (gb_drewN HGR9.out _) (.inl rfl)⟩
        have hje : j = a.n.length := by omega
        have HK := lexC_short N0 HE.out (by omega) (by omega)
        have HZe := hide (show cmpV a b = -1 by rw [HD.out, thenC_ne (by rw [HK]; decide), HK])
        clear HK
        have hlt1 : ¬ (j : Int) < (a.n.length : Int) := by omega
        clear hin hgr
        go_wp2_with fail
        have hs01 : ¬ (0 : Int) < (a.s.length : Int) := by rw [HS0.out]; decide
        go_loopw [6] (fun i wr => i = .int .i64 0 ∧ w3.grownBy wr none) (fun _ _ => 0)
        case atStart => exact ⟨rfl, HGRn.out⟩
        case round =>
          obtain ⟨rfl, hgr⟩ := hrel
          obtain ⟨q0, q1, q2, q3⟩ := HCA3.out.gb hgr
          obtain ⟨k0, k1, k2, k3⟩ := HCB3.out.gb hgr
          have HGRs := hide hgr
          clear hgr
          go_wp2_with (go_at_call 64; refine (HSG.out _ _ _).mono ?_; rintro e wq ⟨rfl, rfl⟩)
          go_ret
          exact ⟨ret_i (by first | exact HZe.out.symm | (rw [HZe.out]; rfl) | (rw [HZe.out]; simp)), gb_trans HGA3.out HGRs.out (.inl rfl)⟩
    by_cases hng : b.n.length < a.n.length
    · have HS0 : Hid (a.s.length = 0) := hide (by
        rcases hdis with h | h
        · rw [h.1] at hng; simp at hng
        · rw [h.1]; rfl)
      clear hdis
      go_enter Try.func30, Try.ntmps30
      go_wp2_with fail
      rw [← HWE.out]
      refine wp_region_facts' 4 (by kernel_rfl) (by kernel_rfl) ?_
      intro A O W L HA HO HW HL
      simp only [List.take_succ_cons, List.take_zero]
      have HS := hide (show A.tmps.size = 175 by rw [HA.out]; rfl)
      have HGW := hide (show wa.grownBy W none by rw [HW.out]; exact gb_drew (gb_refl wa none))
      have A2 := hide (show A.eval (.tmp 2) = .pointer (some ⟨w.heap.size, 0, none⟩) by rw [HA.out]; rfl)
      have A3 := hide (show A.eval (.tmp 3) = .pointer (some ⟨w.heap.size + 1, 0, none⟩) by rw [HA.out]; rfl)
      -- slot 9
      refine wpFacts_lit (.agg #[.int .i64 a.t, .slice nA a.n.length nc, .slice sA a.s.length sc, .slice lA a.l.length lc]) rfl ?_ ?_
      · intro aq wq hw hl
        have e2 : aq.tmps[2]?.getD undef = .pointer (some ⟨w.heap.size, 0, none⟩) := (hl 2 (by first | (simp [Op.operands]; done) | simp [Op.operands, Call.operands]) (by rw [HS.out]; decide)).trans A2.out
        obtain ⟨c0, c1, c2, c3⟩ := HCA.out.gb (gb_trans HGW.out hw (.inl rfl))
        clear hl
        go_simp
      -- slot 10
      refine wpFacts_step (fun vq _ => vq = .int .i64 r1) rfl (Lit.up _) ?_ ?_
      · intro aq wq hw hl
        have e9 : aq.tmps[9]?.getD undef = .agg #[.int .i64 a.t, .slice nA a.n.length nc, .slice sA a.s.length sc, .slice lA a.l.length lc] := hl 9 (by first | (simp [Op.operands]; done) | simp [Op.operands, Call.operands]) (by rw [HS.out]; decide)
        clear hl
        go_simp
        exact gUpon_lit (HRA.out _)
      -- slot 11
      refine wpFacts_lit (.agg #[.int .i64 b.t, .slice nA' b.n.length nc', .slice sA' b.s.length sc', .slice lA' b.l.length lc']) rfl ?_ ?_
      · intro aq wq hw hl
        have e3 : aq.tmps[3]?.getD undef = .pointer (some ⟨w.heap.size + 1, 0, none⟩) := (hl 3 (by first | (simp [Op.operands]; done) | simp [Op.operands, Call.operands]) (by rw [HS.out]; decide)).trans A3.out
        obtain ⟨c0, c1, c2, c3⟩ := HCB.out.gb (gb_trans HGW.out hw (.inl rfl))
        clear hl
        go_simp
      -- slot 12
      refine wpFacts_step (fun vq _ => vq = .int .i64 r2) rfl (Lit.up _) ?_ ?_
      · intro aq wq hw hl
        have e11 : aq.tmps[11]?.getD undef = .agg #[.int .i64 b.t, .slice nA' b.n.length nc', .slice sA' b.s.length sc', .slice lA' b.l.length lc'] := hl 11 (by first | (simp [Op.operands]; done) | simp [Op.operands, Call.operands]) (by rw [HS.out]; decide)
        clear hl
        go_simp
        exact gUpon_lit (HRB.out _)
      refine HL.out _ (fun a' w1 hc => ?_)
      have e10 : a'.eval (.tmp 10) = .int .i64 r1 := hc.fact 10 (by rw [HS.out]; decide)
      have e12 : a'.eval (.tmp 12) = .int .i64 r2 := hc.fact 12 (by rw [HS.out]; decide)
      have hgw1 := gb_trans HGW.out hc.grown (.inl rfl)
      have hfr := hc.frame [9, 10, 11, 12, 13] (by rw [HO.out]; kernel_rfl)
      rw [hfr]
      clear hfr hc
      rw [HA.out]
      clear HA HO HL HW HS HGW A2 A3
      clear A O W L
      simp only [List.drop_succ_cons, List.drop_zero, List.foldl_cons, List.foldl_nil, Act.put, List.setIfInBounds_toArray, List.set_cons_succ, List.set_cons_zero]
      rw [e10, e12]
      generalize a'.eval (.tmp 9) = x9
      generalize a'.eval (.tmp 11) = x11
      generalize a'.eval (.tmp 13) = x13
      clear e10 e12
      clear a'
      have HCA1 := hide (HCA.out.gb hgw1)
      have HCB1 := hide (HCB.out.gb hgw1)
      have HG1 := hide hgw1
      clear hgw1
      go_wp2_with fail
      refine wp_region_facts' 4 (by kernel_rfl) (by kernel_rfl) ?_
      intro A O W L HA HO HW HL
      simp only [List.take_succ_cons, List.take_zero]
      have HS := hide (show A.tmps.size = 175 by rw [HA.out]; rfl)
      have HGW := hide (show w1.grownBy W none by rw [HW.out]; exact gb_drew (gb_refl w1 none))
      have A2 := hide (show A.eval (.tmp 2) = .pointer (some ⟨w.heap.size, 0, none⟩) by rw [HA.out]; rfl)
      have A3 := hide (show A.eval (.tmp 3) = .pointer (some ⟨w.heap.size + 1, 0, none⟩) by rw [HA.out]; rfl)
      -- slot 20
      refine wpFacts_lit (.agg #[.int .i64 a.t, .slice nA a.n.length nc, .slice sA a.s.length sc, .slice lA a.l.length lc]) rfl ?_ ?_
      · intro aq wq hw hl
        have e2 : aq.tmps[2]?.getD undef = .pointer (some ⟨w.heap.size, 0, none⟩) := (hl 2 (by first | (simp [Op.operands]; done) | simp [Op.operands, Call.operands]) (by rw [HS.out]; decide)).trans A2.out
        obtain ⟨c0, c1, c2, c3⟩ := HCA1.out.gb (gb_trans HGW.out hw (.inl rfl))
        clear hl
        go_simp
      -- slot 21
      refine wpFacts_step (fun vq _ => vq = .bool pa) rfl (Lit.up _) ?_ ?_
      · intro aq wq hw hl
        have e20 : aq.tmps[20]?.getD undef = .agg #[.int .i64 a.t, .slice nA a.n.length nc, .slice sA a.s.length sc, .slice lA a.l.length lc] := hl 20 (by first | (simp [Op.operands]; done) | simp [Op.operands, Call.operands]) (by rw [HS.out]; decide)
        clear hl
        go_simp
        exact gUpon_lit (HTA.out _)
      -- slot 22
      refine wpFacts_lit (.agg #[.int .i64 b.t, .slice nA' b.n.length nc', .slice sA' b.s.length sc', .slice lA' b.l.length lc']) rfl ?_ ?_
      · intro aq wq hw hl
        have e3 : aq.tmps[3]?.getD undef = .pointer (some ⟨w.heap.size + 1, 0, none⟩) := (hl 3 (by first | (simp [Op.operands]; done) | simp [Op.operands, Call.operands]) (by rw [HS.out]; decide)).trans A3.out
        obtain ⟨c0, c1, c2, c3⟩ := HCB1.out.gb (gb_trans HGW.out hw (.inl rfl))
        clear hl
        go_simp
      -- slot 23
      refine wpFacts_step (fun vq _ => vq = .bool pa) rfl (Lit.up _) ?_ ?_
      · intro aq wq hw hl
        have e22 : aq.tmps[22]?.getD undef = .agg #[.int .i64 b.t, .slice nA' b.n.length nc', .slice sA' b.s.length sc', .slice lA' b.l.length lc'] := hl 22 (by first | (simp [Op.operands]; done) | simp [Op.operands, Call.operands]) (by rw [HS.out]; decide)
        clear hl
        go_simp
        exact gUpon_lit (HTB.out _)
      refine HL.out _ (fun a' w3 hc => ?_)
      have e21 : a'.eval (.tmp 21) = .bool pa := hc.fact 21 (by rw [HS.out]; decide)
      have e23 : a'.eval (.tmp 23) = .bool pa := hc.fact 23 (by rw [HS.out]; decide)
      have hgw3 := gb_trans HGW.out hc.grown (.inl rfl)
      have hfr := hc.frame [20, 21, 22, 23, 24] (by rw [HO.out]; kernel_rfl)
      rw [hfr]
      clear hfr hc
      rw [HA.out]
      clear HA HO HL HW HS HGW A2 A3
      clear A O W L
      simp only [List.drop_succ_cons, List.drop_zero, List.foldl_cons, List.foldl_nil, Act.put, List.setIfInBounds_toArray, List.set_cons_succ, List.set_cons_zero]
      rw [e21, e23]
      generalize a'.eval (.tmp 20) = x20
      generalize a'.eval (.tmp 22) = x22
      generalize a'.eval (.tmp 24) = x24
      clear e21 e23
      clear a'
      have HCA3 := hide (HCA1.out.gb hgw3)
      have HCB3 := hide (HCB1.out.gb hgw3)
      have HG3 := hide (gb_trans HG1.out hgw3 (.inl rfl))
      have HGA3 := hide (gb_trans HG.out HG3.out (.inl rfl))
      have HVA := hide ((HVA.out.gb HG3.out (Nat.le_refl _)).up HG3.out.size)
      have HVB := hide ((HVB.out.gb HG3.out (Nat.le_refl _)).up HG3.out.size)
      clear hgw3
      go_wp2_with fail
      go_loopw [5] (fun i wr => ∃ j : Nat, i = .int .i64 (j : Int) ∧ j ≤ a.n.length ∧ j ≤ b.n.length ∧ Hid (a.n.take j = b.n.take j) ∧ w3.grownBy wr none) (fun i _ => a.n.length - (intOf i).toNat)
      case atStart => exact ⟨0, rfl, by omega, by omega, hide rfl, gb_refl w3 none⟩
      case round =>
        obtain ⟨j, rfl, hj, hj2, HE, hgr⟩ := hrel
        obtain ⟨q0, q1, q2, q3⟩ := HCA3.out.gb hgr
        obtain ⟨k0, k1, k2, k3⟩ := HCB3.out.gb hgr
        have HGRn := hide hgr
        by_cases hin : j < a.n.length ∧ j < b.n.length
        · have hlt := hin.1
          have hltm := hin.2
          have hlt1 : (j : Int) < (a.n.length : Int) := by omega
          have hlt2 : (j : Int) < (b.n.length : Int) := by omega
          obtain ⟨ad, rfl, _, ca⟩ := ((HVA.out.gb hgr (Nat.le_refl _)).n).i64 hlt
          obtain ⟨ad', rfl, _, ca'⟩ := ((HVB.out.gb hgr (Nat.le_refl _)).n).i64 hltm
          by_cases hx : a.n[j] = b.n[j]
          · have hx1 : (a.n[j] != b.n[j]) = false := int_bne_t hx
            have HT := hide (take_eq_step HE.out hlt hltm hx)
            clear hx hin hgr
            go_wp2_with fail
            go_quiet (fail)
            go_wp2_with fail
            go_roundw
            case rel => exact ⟨j + 1, by go_num, by omega, by omega, HT, gb_drewN HGRn.out _⟩
            case measure => simp [intOf]; omega
          · have hx1 : (a.n[j] != b.n[j]) = true := int_bne_f hx
            have HZ := hide (HZn.out j hlt hltm HE.out hx)
            clear hx hin
            go_wp2_with fail
            go_quiet (fail)
            go_wp2_with fail
            obtain ⟨w9, hw9⟩ : ∃ w9, w9 = wr.drewN nq := ⟨_, rfl⟩
            have HW9 := hide (show wr.grownBy w9 none by rw [hw9]; exact gb_drewN (gb_refl wr none) nq)
            rw [← hw9]
            have q0 := cell_gb q0 HW9.out
            have q1 := cell_gb q1 HW9.out
            have q2 := cell_gb q2 HW9.out
            have q3 := cell_gb q3 HW9.out
            have k0 := cell_gb k0 HW9.out
            have k1 := cell_gb k1 HW9.out
            have k2 := cell_gb k2 HW9.out
            have k3 := cell_gb k3 HW9.out
            have ca := cell_gb ca HW9.out
            have ca' := cell_gb ca' HW9.out
            have HGR9 := hide (gb_trans HGRn.out HW9.out (.inl rfl))
            clear hw9 hgr
            go_quiet ((go_at_call 64; with_reducible exact quiet_l (HSG.out _ _ _)))
            go_wp2_with fail
            all_goals
              go_ret
              exact ⟨ret_i (by rw [HZ.out]; first | (rw [if_pos h]; done) | (rw [if_neg h]; simp; done) | simp), gb_trans HGA3.out (gb_drewN HGR9.out _) (.inl rfl)⟩
        have hje : j = b.n.length := by omega
        have HK := lexC_long N0 HE.out (by omega) (by omega)
        have HZe := hide (show cmpV a b = 1 by rw [HD.out, thenC_ne (by rw [HK]; decide), HK])
        clear HK
        have hlt1 : (j : Int) < (a.n.length : Int) := by omega
        have hlt2 : ¬ (j : Int) < (b.n.length : Int) := by omega
        clear hin hgr
        go_wp2_with fail
        have hs01 : ¬ (0 : Int) < (a.s.length : Int) := by rw [HS0.out]; decide
        go_loopw [6] (fun i wr => i = .int .i64 0 ∧ w3.grownBy wr none) (fun _ _ => 0)
        case atStart => exact ⟨rfl, HGRn.out⟩
        case round =>
          obtain ⟨rfl, hgr⟩ := hrel
          obtain ⟨q0, q1, q2, q3⟩ := HCA3.out.gb hgr
          obtain ⟨k0, k1, k2, k3⟩ := HCB3.out.gb hgr
          have HGRs := hide hgr
          clear hgr
          go_wp2_with (go_at_call 64; refine (HSG.out _ _ _).mono ?_; rintro e wq ⟨rfl, rfl⟩)
          go_ret
          exact ⟨ret_i (by first | exact HZe.out.symm | (rw [HZe.out]; rfl) | (rw [HZe.out]; simp)), gb_trans HGA3.out HGRs.out (.inl rfl)⟩
    clear hdis
    by_cases hsl : a.s.length < b.s.length
    · skip
      go_enter Try.func30, Try.ntmps30
      go_wp2_with fail
      rw [← HWE.out]
      refine wp_region_facts' 4 (by kernel_rfl) (by kernel_rfl) ?_
      intro A O W L HA HO HW HL
      simp only [List.take_succ_cons, List.take_zero]
      have HS := hide (show A.tmps.size = 175 by rw [HA.out]; rfl)
      have HGW := hide (show wa.grownBy W none by rw [HW.out]; exact gb_drew (gb_refl wa none))
      have A2 := hide (show A.eval (.tmp 2) = .pointer (some ⟨w.heap.size, 0, none⟩) by rw [HA.out]; rfl)
      have A3 := hide (show A.eval (.tmp 3) = .pointer (some ⟨w.heap.size + 1, 0, none⟩) by rw [HA.out]; rfl)
      -- slot 9
      refine wpFacts_lit (.agg #[.int .i64 a.t, .slice nA a.n.length nc, .slice sA a.s.length sc, .slice lA a.l.length lc]) rfl ?_ ?_
      · intro aq wq hw hl
        have e2 : aq.tmps[2]?.getD undef = .pointer (some ⟨w.heap.size, 0, none⟩) := (hl 2 (by first | (simp [Op.operands]; done) | simp [Op.operands, Call.operands]) (by rw [HS.out]; decide)).trans A2.out
        obtain ⟨c0, c1, c2, c3⟩ := HCA.out.gb (gb_trans HGW.out hw (.inl rfl))
        clear hl
        go_simp
      -- slot 10
      refine wpFacts_step (fun vq _ => vq = .int .i64 r1) rfl (Lit.up _) ?_ ?_
      · intro aq wq hw hl
        have e9 : aq.tmps[9]?.getD undef = .agg #[.int .i64 a.t, .slice nA a.n.length nc, .slice sA a.s.length sc, .slice lA a.l.length lc] := hl 9 (by first | (simp [Op.operands]; done) | simp [Op.operands, Call.operands]) (by rw [HS.out]; decide)
        clear hl
        go_simp
        exact gUpon_lit (HRA.out _)
      -- slot 11
      refine wpFacts_lit (.agg #[.int .i64 b.t, .slice nA' b.n.length nc', .slice sA' b.s.length sc', .slice lA' b.l.length lc']) rfl ?_ ?_
      · intro aq wq hw hl
        have e3 : aq.tmps[3]?.getD undef = .pointer (some ⟨w.heap.size + 1, 0, none⟩) := (hl 3 (by first | (simp [Op.operands]; done) | simp [Op.operands, Call.operands]) (by rw [HS.out]; decide)).trans A3.out
        obtain ⟨c0, c1, c2, c3⟩ := HCB.out.gb (gb_trans HGW.out hw (.inl rfl))
        clear hl
        go_simp
      -- slot 12
      refine wpFacts_step (fun vq _ => vq = .int .i64 r2) rfl (Lit.up _) ?_ ?_
      · intro aq wq hw hl
        have e11 : aq.tmps[11]?.getD undef = .agg #[.int .i64 b.t, .slice nA' b.n.length nc', .slice sA' b.s.length sc', .slice lA' b.l.length lc'] := hl 11 (by first | (simp [Op.operands]; done) | simp [Op.operands, Call.operands]) (by rw [HS.out]; decide)
        clear hl
        go_simp
        exact gUpon_lit (HRB.out _)
      refine HL.out _ (fun a' w1 hc => ?_)
      have e10 : a'.eval (.tmp 10) = .int .i64 r1 := hc.fact 10 (by rw [HS.out]; decide)
      have e12 : a'.eval (.tmp 12) = .int .i64 r2 := hc.fact 12 (by rw [HS.out]; decide)
      have hgw1 := gb_trans HGW.out hc.grown (.inl rfl)
      have hfr := hc.frame [9, 10, 11, 12, 13] (by rw [HO.out]; kernel_rfl)
      rw [hfr]
      clear hfr hc
      rw [HA.out]
      clear HA HO HL HW HS HGW A2 A3
      clear A O W L
      simp only [List.drop_succ_cons, List.drop_zero, List.foldl_cons, List.foldl_nil, Act.put, List.setIfInBounds_toArray, List.set_cons_succ, List.set_cons_zero]
      rw [e10, e12]
      generalize a'.eval (.tmp 9) = x9
      generalize a'.eval (.tmp 11) = x11
      generalize a'.eval (.tmp 13) = x13
      clear e10 e12
      clear a'
      have HCA1 := hide (HCA.out.gb hgw1)
      have HCB1 := hide (HCB.out.gb hgw1)
      have HG1 := hide hgw1
      clear hgw1
      go_wp2_with fail
      refine wp_region_facts' 4 (by kernel_rfl) (by kernel_rfl) ?_
      intro A O W L HA HO HW HL
      simp only [List.take_succ_cons, List.take_zero]
      have HS := hide (show A.tmps.size = 175 by rw [HA.out]; rfl)
      have HGW := hide (show w1.grownBy W none by rw [HW.out]; exact gb_drew (gb_refl w1 none))
      have A2 := hide (show A.eval (.tmp 2) = .pointer (some ⟨w.heap.size, 0, none⟩) by rw [HA.out]; rfl)
      have A3 := hide (show A.eval (.tmp 3) = .pointer (some ⟨w.heap.size + 1, 0, none⟩) by rw [HA.out]; rfl)
      -- slot 20
      refine wpFacts_lit (.agg #[.int .i64 a.t, .slice nA a.n.length nc, .slice sA a.s.length sc, .slice lA a.l.length lc]) rfl ?_ ?_
      · intro aq wq hw hl
        have e2 : aq.tmps[2]?.getD undef = .pointer (some ⟨w.heap.size, 0, none⟩) := (hl 2 (by first | (simp [Op.operands]; done) | simp [Op.operands, Call.operands]) (by rw [HS.out]; decide)).trans A2.out
        obtain ⟨c0, c1, c2, c3⟩ := HCA1.out.gb (gb_trans HGW.out hw (.inl rfl))
        clear hl
        go_simp
      -- slot 21
      refine wpFacts_step (fun vq _ => vq = .bool pa) rfl (Lit.up _) ?_ ?_
      · intro aq wq hw hl
        have e20 : aq.tmps[20]?.getD undef = .agg #[.int .i64 a.t, .slice nA a.n.length nc, .slice sA a.s.length sc, .slice lA a.l.length lc] := hl 20 (by first | (simp [Op.operands]; done) | simp [Op.operands, Call.operands]) (by rw [HS.out]; decide)
        clear hl
        go_simp
        exact gUpon_lit (HTA.out _)
      -- slot 22
      refine wpFacts_lit (.agg #[.int .i64 b.t, .slice nA' b.n.length nc', .slice sA' b.s.length sc', .slice lA' b.l.length lc']) rfl ?_ ?_
      · intro aq wq hw hl
        have e3 : aq.tmps[3]?.getD undef = .pointer (some ⟨w.heap.size + 1, 0, none⟩) := (hl 3 (by first | (simp [Op.operands]; done) | simp [Op.operands, Call.operands]) (by rw [HS.out]; decide)).trans A3.out
        obtain ⟨c0, c1, c2, c3⟩ := HCB1.out.gb (gb_trans HGW.out hw (.inl rfl))
        clear hl
        go_simp
      -- slot 23
      refine wpFacts_step (fun vq _ => vq = .bool pa) rfl (Lit.up _) ?_ ?_
      · intro aq wq hw hl
        have e22 : aq.tmps[22]?.getD undef = .agg #[.int .i64 b.t, .slice nA' b.n.length nc', .slice sA' b.s.length sc', .slice lA' b.l.length lc'] := hl 22 (by first | (simp [Op.operands]; done) | simp [Op.operands, Call.operands]) (by rw [HS.out]; decide)
        clear hl
        go_simp
        exact gUpon_lit (HTB.out _)
      refine HL.out _ (fun a' w3 hc => ?_)
      have e21 : a'.eval (.tmp 21) = .bool pa := hc.fact 21 (by rw [HS.out]; decide)
      have e23 : a'.eval (.tmp 23) = .bool pa := hc.fact 23 (by rw [HS.out]; decide)
      have hgw3 := gb_trans HGW.out hc.grown (.inl rfl)
      have hfr := hc.frame [20, 21, 22, 23, 24] (by rw [HO.out]; kernel_rfl)
      rw [hfr]
      clear hfr hc
      rw [HA.out]
      clear HA HO HL HW HS HGW A2 A3
      clear A O W L
      simp only [List.drop_succ_cons, List.drop_zero, List.foldl_cons, List.foldl_nil, Act.put, List.setIfInBounds_toArray, List.set_cons_succ, List.set_cons_zero]
      rw [e21, e23]
      generalize a'.eval (.tmp 20) = x20
      generalize a'.eval (.tmp 22) = x22
      generalize a'.eval (.tmp 24) = x24
      clear e21 e23
      clear a'
      have HCA3 := hide (HCA1.out.gb hgw3)
      have HCB3 := hide (HCB1.out.gb hgw3)
      have HG3 := hide (gb_trans HG1.out hgw3 (.inl rfl))
      have HGA3 := hide (gb_trans HG.out HG3.out (.inl rfl))
      have HVA := hide ((HVA.out.gb HG3.out (Nat.le_refl _)).up HG3.out.size)
      have HVB := hide ((HVB.out.gb HG3.out (Nat.le_refl _)).up HG3.out.size)
      clear hgw3
      go_wp2_with fail
      go_loopw [5] (fun i wr => ∃ j : Nat, i = .int .i64 (j : Int) ∧ j ≤ a.n.length ∧ j ≤ b.n.length ∧ Hid (a.n.take j = b.n.take j) ∧ w3.grownBy wr none) (fun i _ => a.n.length - (intOf i).toNat)
      case atStart => exact ⟨0, rfl, by omega, by omega, hide rfl, gb_refl w3 none⟩
      case round =>
        obtain ⟨j, rfl, hj, hj2, HE, hgr⟩ := hrel
        obtain ⟨q0, q1, q2, q3⟩ := HCA3.out.gb hgr
        obtain ⟨k0, k1, k2, k3⟩ := HCB3.out.gb hgr
        have HGRn := hide hgr
        by_cases hin : j < a.n.length ∧ j < b.n.length
        · have hlt := hin.1
          have hltm := hin.2
          have hlt1 : (j : Int) < (a.n.length : Int) := by omega
          have hlt2 : (j : Int) < (b.n.length : Int) := by omega
          obtain ⟨ad, rfl, _, ca⟩ := ((HVA.out.gb hgr (Nat.le_refl _)).n).i64 hlt
          obtain ⟨ad', rfl, _, ca'⟩ := ((HVB.out.gb hgr (Nat.le_refl _)).n).i64 hltm
          by_cases hx : a.n[j] = b.n[j]
          · have hx1 : (a.n[j] != b.n[j]) = false := int_bne_t hx
            have HT := hide (take_eq_step HE.out hlt hltm hx)
            clear hx hin hgr
            go_wp2_with fail
            go_quiet (fail)
            go_wp2_with fail
            go_roundw
            case rel => exact ⟨j + 1, by go_num, by omega, by omega, HT, gb_drewN HGRn.out _⟩
            case measure => simp [intOf]; omega
          · have hx1 : (a.n[j] != b.n[j]) = true := int_bne_f hx
            have HZ := hide (HZn.out j hlt hltm HE.out hx)
            clear hx hin
            go_wp2_with fail
            go_quiet (fail)
            go_wp2_with fail
            obtain ⟨w9, hw9⟩ : ∃ w9, w9 = wr.drewN nq := ⟨_, rfl⟩
            have HW9 := hide (show wr.grownBy w9 none by rw [hw9]; exact gb_drewN (gb_refl wr none) nq)
            rw [← hw9]
            have q0 := cell_gb q0 HW9.out
            have q1 := cell_gb q1 HW9.out
            have q2 := cell_gb q2 HW9.out
            have q3 := cell_gb q3 HW9.out
            have k0 := cell_gb k0 HW9.out
            have k1 := cell_gb k1 HW9.out
            have k2 := cell_gb k2 HW9.out
            have k3 := cell_gb k3 HW9.out
            have ca := cell_gb ca HW9.out
            have ca' := cell_gb ca' HW9.out
            have HGR9 := hide (gb_trans HGRn.out HW9.out (.inl rfl))
            clear hw9 hgr
            go_quiet ((go_at_call 64; with_reducible exact quiet_l (HSG.out _ _ _)))
            go_wp2_with fail
            all_goals
              go_ret
              exact ⟨ret_i (by rw [HZ.out]; first | (rw [if_pos h]; done) | (rw [if_neg h]; simp; done) | simp), gb_trans HGA3.out (gb_drewN HGR9.out _) (.inl rfl)⟩
        have hje : j = a.n.length := by omega
        have HKn := hide (show lexC cmpI a.n b.n = 0 from lexC_end N0 HE.out (by omega) (by omega))
        have hlt1 : ¬ (j : Int) < (a.n.length : Int) := by omega
        clear hin hgr
        go_wp2_with fail
        go_loopw [6] (fun i wr => ∃ j : Nat, i = .int .i64 (j : Int) ∧ j ≤ a.s.length ∧ j ≤ b.s.length ∧ Hid (a.s.take j = b.s.take j) ∧ w3.grownBy wr none) (fun i _ => a.s.length - (intOf i).toNat)
        case atStart => exact ⟨0, rfl, by omega, by omega, hide rfl, HGRn.out⟩
        case round =>
          obtain ⟨j, rfl, hj, hj2, HE, hgr⟩ := hrel
          obtain ⟨q0, q1, q2, q3⟩ := HCA3.out.gb hgr
          obtain ⟨k0, k1, k2, k3⟩ := HCB3.out.gb hgr
          have HGRs := hide hgr
          by_cases hin : j < a.s.length ∧ j < b.s.length
          · have hlt := hin.1
            have hltm := hin.2
            have hlt1 : (j : Int) < (a.s.length : Int) := by omega
            have hlt2 : (j : Int) < (b.s.length : Int) := by omega
            obtain ⟨ad, rfl, _, ca⟩ := ((HVA.out.gb hgr (Nat.le_refl _)).s).str hlt
            obtain ⟨ad', rfl, _, ca'⟩ := ((HVB.out.gb hgr (Nat.le_refl _)).s).str hltm
            by_cases hx : a.s[j] = b.s[j]
            · have hx1 : (a.s[j].toList == b.s[j].toList) = true := ba_eq hx
              have HT := hide (take_eq_step HE.out hlt hltm hx)
              clear hx hin hgr
              go_wp2_with fail
              go_quiet (fail)
              go_wp2_with fail
              go_roundw
              case rel => exact ⟨j + 1, by go_num, by omega, by omega, HT, gb_drewN HGRs.out _⟩
              case measure => simp [intOf]; omega
            · have hx1 : (a.s[j].toList == b.s[j].toList) = false := ba_ne hx
              have HZ := hide (HZs.out j hlt hltm HE.out hx)
              clear hx hin
              go_wp2_with fail
              go_quiet (fail)
              go_wp2_with fail
              obtain ⟨w9, hw9⟩ : ∃ w9, w9 = wr.drewN nq := ⟨_, rfl⟩
              have HW9 := hide (show wr.grownBy w9 none by rw [hw9]; exact gb_drewN (gb_refl wr none) nq)
              rw [← hw9]
              have q0 := cell_gb q0 HW9.out
              have q1 := cell_gb q1 HW9.out
              have q2 := cell_gb q2 HW9.out
              have q3 := cell_gb q3 HW9.out
              have k0 := cell_gb k0 HW9.out
              have k1 := cell_gb k1 HW9.out
              have k2 := cell_gb k2 HW9.out
              have k3 := cell_gb k3 HW9.out
              have ca := cell_gb ca HW9.out
              have ca' := cell_gb ca' HW9.out
              have HGR9 := hide (gb_trans HGRs.out HW9.out (.inl rfl))
              clear hw9 hgr
              go_quiet ((go_at_call 64; with_reducible exact quiet_l (HSG.out _ _ _)))
              go_wp2_with fail
              all_goals
                go_ret
                exact ⟨ret_i (by rw [HZ.out]; first | (rw [if_pos h]; done) | (rw [if_neg h]; simp; done) | simp), gb_trans HGA3.out (gb_drewN HGR9.out _) (.inl rfl)⟩
          have hje : j = a.s.length := by omega
          have HK := lexC_short S0 HE.out (by omega) (by omega)
          have HZe := hide (show cmpV a b = -1 by rw [HD.out, thenC_eq HKn.out, thenC_ne (by rw [HK]; decide), HK])
          clear HK
          have hlt1 : ¬ (j : Int) < (a.s.length : Int) := by omega
          clear hin hgr
          go_wp2_with (go_at_call 64; refine (HSG.out _ _ _).mono ?_; rintro e wq ⟨rfl, rfl⟩)
          go_ret
          exact ⟨ret_i (by first | exact HZe.out.symm | (rw [HZe.out]; rfl) | (rw [HZe.out]; simp)), gb_trans HGA3.out HGRs.out (.inl rfl)⟩
    by_cases hsg : b.s.length < a.s.length
    · skip
      go_enter Try.func30, Try.ntmps30
      go_wp2_with fail
      rw [← HWE.out]
      refine wp_region_facts' 4 (by kernel_rfl) (by kernel_rfl) ?_
      intro A O W L HA HO HW HL
      simp only [List.take_succ_cons, List.take_zero]
      have HS := hide (show A.tmps.size = 175 by rw [HA.out]; rfl)
      have HGW := hide (show wa.grownBy W none by rw [HW.out]; exact gb_drew (gb_refl wa none))
      have A2 := hide (show A.eval (.tmp 2) = .pointer (some ⟨w.heap.size, 0, none⟩) by rw [HA.out]; rfl)
      have A3 := hide (show A.eval (.tmp 3) = .pointer (some ⟨w.heap.size + 1, 0, none⟩) by rw [HA.out]; rfl)
      -- slot 9
      refine wpFacts_lit (.agg #[.int .i64 a.t, .slice nA a.n.length nc, .slice sA a.s.length sc, .slice lA a.l.length lc]) rfl ?_ ?_
      · intro aq wq hw hl
        have e2 : aq.tmps[2]?.getD undef = .pointer (some ⟨w.heap.size, 0, none⟩) := (hl 2 (by first | (simp [Op.operands]; done) | simp [Op.operands, Call.operands]) (by rw [HS.out]; decide)).trans A2.out
        obtain ⟨c0, c1, c2, c3⟩ := HCA.out.gb (gb_trans HGW.out hw (.inl rfl))
        clear hl
        go_simp
      -- slot 10
      refine wpFacts_step (fun vq _ => vq = .int .i64 r1) rfl (Lit.up _) ?_ ?_
      · intro aq wq hw hl
        have e9 : aq.tmps[9]?.getD undef = .agg #[.int .i64 a.t, .slice nA a.n.length nc, .slice sA a.s.length sc, .slice lA a.l.length lc] := hl 9 (by first | (simp [Op.operands]; done) | simp [Op.operands, Call.operands]) (by rw [HS.out]; decide)
        clear hl
        go_simp
        exact gUpon_lit (HRA.out _)
      -- slot 11
      refine wpFacts_lit (.agg #[.int .i64 b.t, .slice nA' b.n.length nc', .slice sA' b.s.length sc', .slice lA' b.l.length lc']) rfl ?_ ?_
      · intro aq wq hw hl
        have e3 : aq.tmps[3]?.getD undef = .pointer (some ⟨w.heap.size + 1, 0, none⟩) := (hl 3 (by first | (simp [Op.operands]; done) | simp [Op.operands, Call.operands]) (by rw [HS.out]; decide)).trans A3.out
        obtain ⟨c0, c1, c2, c3⟩ := HCB.out.gb (gb_trans HGW.out hw (.inl rfl))
        clear hl
        go_simp
      -- slot 12
      refine wpFacts_step (fun vq _ => vq = .int .i64 r2) rfl (Lit.up _) ?_ ?_
      · intro aq wq hw hl
        have e11 : aq.tmps[11]?.getD undef = .agg #[.int .i64 b.t, .slice nA' b.n.length nc', .slice sA' b.s.length sc', .slice lA' b.l.length lc'] := hl 11 (by first | (simp [Op.operands]; done) | simp [Op.operands, Call.operands]) (by rw [HS.out]; decide)
        clear hl
        go_simp
        exact gUpon_lit (HRB.out _)
      refine HL.out _ (fun a' w1 hc => ?_)
      have e10 : a'.eval (.tmp 10) = .int .i64 r1 := hc.fact 10 (by rw [HS.out]; decide)
      have e12 : a'.eval (.tmp 12) = .int .i64 r2 := hc.fact 12 (by rw [HS.out]; decide)
      have hgw1 := gb_trans HGW.out hc.grown (.inl rfl)
      have hfr := hc.frame [9, 10, 11, 12, 13] (by rw [HO.out]; kernel_rfl)
      rw [hfr]
      clear hfr hc
      rw [HA.out]
      clear HA HO HL HW HS HGW A2 A3
      clear A O W L
      simp only [List.drop_succ_cons, List.drop_zero, List.foldl_cons, List.foldl_nil, Act.put, List.setIfInBounds_toArray, List.set_cons_succ, List.set_cons_zero]
      rw [e10, e12]
      generalize a'.eval (.tmp 9) = x9
      generalize a'.eval (.tmp 11) = x11
      generalize a'.eval (.tmp 13) = x13
      clear e10 e12
      clear a'
      have HCA1 := hide (HCA.out.gb hgw1)
      have HCB1 := hide (HCB.out.gb hgw1)
      have HG1 := hide hgw1
      clear hgw1
      go_wp2_with fail
      refine wp_region_facts' 4 (by kernel_rfl) (by kernel_rfl) ?_
      intro A O W L HA HO HW HL
      simp only [List.take_succ_cons, List.take_zero]
      have HS := hide (show A.tmps.size = 175 by rw [HA.out]; rfl)
      have HGW := hide (show w1.grownBy W none by rw [HW.out]; exact gb_drew (gb_refl w1 none))
      have A2 := hide (show A.eval (.tmp 2) = .pointer (some ⟨w.heap.size, 0, none⟩) by rw [HA.out]; rfl)
      have A3 := hide (show A.eval (.tmp 3) = .pointer (some ⟨w.heap.size + 1, 0, none⟩) by rw [HA.out]; rfl)
      -- slot 20
      refine wpFacts_lit (.agg #[.int .i64 a.t, .slice nA a.n.length nc, .slice sA a.s.length sc, .slice lA a.l.length lc]) rfl ?_ ?_
      · intro aq wq hw hl
        have e2 : aq.tmps[2]?.getD undef = .pointer (some ⟨w.heap.size, 0, none⟩) := (hl 2 (by first | (simp [Op.operands]; done) | simp [Op.operands, Call.operands]) (by rw [HS.out]; decide)).trans A2.out
        obtain ⟨c0, c1, c2, c3⟩ := HCA1.out.gb (gb_trans HGW.out hw (.inl rfl))
        clear hl
        go_simp
      -- slot 21
      refine wpFacts_step (fun vq _ => vq = .bool pa) rfl (Lit.up _) ?_ ?_
      · intro aq wq hw hl
        have e20 : aq.tmps[20]?.getD undef = .agg #[.int .i64 a.t, .slice nA a.n.length nc, .slice sA a.s.length sc, .slice lA a.l.length lc] := hl 20 (by first | (simp [Op.operands]; done) | simp [Op.operands, Call.operands]) (by rw [HS.out]; decide)
        clear hl
        go_simp
        exact gUpon_lit (HTA.out _)
      -- slot 22
      refine wpFacts_lit (.agg #[.int .i64 b.t, .slice nA' b.n.length nc', .slice sA' b.s.length sc', .slice lA' b.l.length lc']) rfl ?_ ?_
      · intro aq wq hw hl
        have e3 : aq.tmps[3]?.getD undef = .pointer (some ⟨w.heap.size + 1, 0, none⟩) := (hl 3 (by first | (simp [Op.operands]; done) | simp [Op.operands, Call.operands]) (by rw [HS.out]; decide)).trans A3.out
        obtain ⟨c0, c1, c2, c3⟩ := HCB1.out.gb (gb_trans HGW.out hw (.inl rfl))
        clear hl
        go_simp
      -- slot 23
      refine wpFacts_step (fun vq _ => vq = .bool pa) rfl (Lit.up _) ?_ ?_
      · intro aq wq hw hl
        have e22 : aq.tmps[22]?.getD undef = .agg #[.int .i64 b.t, .slice nA' b.n.length nc', .slice sA' b.s.length sc', .slice lA' b.l.length lc'] := hl 22 (by first | (simp [Op.operands]; done) | simp [Op.operands, Call.operands]) (by rw [HS.out]; decide)
        clear hl
        go_simp
        exact gUpon_lit (HTB.out _)
      refine HL.out _ (fun a' w3 hc => ?_)
      have e21 : a'.eval (.tmp 21) = .bool pa := hc.fact 21 (by rw [HS.out]; decide)
      have e23 : a'.eval (.tmp 23) = .bool pa := hc.fact 23 (by rw [HS.out]; decide)
      have hgw3 := gb_trans HGW.out hc.grown (.inl rfl)
      have hfr := hc.frame [20, 21, 22, 23, 24] (by rw [HO.out]; kernel_rfl)
      rw [hfr]
      clear hfr hc
      rw [HA.out]
      clear HA HO HL HW HS HGW A2 A3
      clear A O W L
      simp only [List.drop_succ_cons, List.drop_zero, List.foldl_cons, List.foldl_nil, Act.put, List.setIfInBounds_toArray, List.set_cons_succ, List.set_cons_zero]
      rw [e21, e23]
      generalize a'.eval (.tmp 20) = x20
      generalize a'.eval (.tmp 22) = x22
      generalize a'.eval (.tmp 24) = x24
      clear e21 e23
      clear a'
      have HCA3 := hide (HCA1.out.gb hgw3)
      have HCB3 := hide (HCB1.out.gb hgw3)
      have HG3 := hide (gb_trans HG1.out hgw3 (.inl rfl))
      have HGA3 := hide (gb_trans HG.out HG3.out (.inl rfl))
      have HVA := hide ((HVA.out.gb HG3.out (Nat.le_refl _)).up HG3.out.size)
      have HVB := hide ((HVB.out.gb HG3.out (Nat.le_refl _)).up HG3.out.size)
      clear hgw3
      go_wp2_with fail
      go_loopw [5] (fun i wr => ∃ j : Nat, i = .int .i64 (j : Int) ∧ j ≤ a.n.length ∧ j ≤ b.n.length ∧ Hid (a.n.take j = b.n.take j) ∧ w3.grownBy wr none) (fun i _ => a.n.length - (intOf i).toNat)
      case atStart => exact ⟨0, rfl, by omega, by omega, hide rfl, gb_refl w3 none⟩
      case round =>
        obtain ⟨j, rfl, hj, hj2, HE, hgr⟩ := hrel
        obtain ⟨q0, q1, q2, q3⟩ := HCA3.out.gb hgr
        obtain ⟨k0, k1, k2, k3⟩ := HCB3.out.gb hgr
        have HGRn := hide hgr
        by_cases hin : j < a.n.length ∧ j < b.n.length
        · have hlt := hin.1
          have hltm := hin.2
          have hlt1 : (j : Int) < (a.n.length : Int) := by omega
          have hlt2 : (j : Int) < (b.n.length : Int) := by omega
          obtain ⟨ad, rfl, _, ca⟩ := ((HVA.out.gb hgr (Nat.le_refl _)).n).i64 hlt
          obtain ⟨ad', rfl, _, ca'⟩ := ((HVB.out.gb hgr (Nat.le_refl _)).n).i64 hltm
          by_cases hx : a.n[j] = b.n[j]
          · have hx1 : (a.n[j] != b.n[j]) = false := int_bne_t hx
            have HT := hide (take_eq_step HE.out hlt hltm hx)
            clear hx hin hgr
            go_wp2_with fail
            go_quiet (fail)
            go_wp2_with fail
            go_roundw
            case rel => exact ⟨j + 1, by go_num, by omega, by omega, HT, gb_drewN HGRn.out _⟩
            case measure => simp [intOf]; omega
          · have hx1 : (a.n[j] != b.n[j]) = true := int_bne_f hx
            have HZ := hide (HZn.out j hlt hltm HE.out hx)
            clear hx hin
            go_wp2_with fail
            go_quiet (fail)
            go_wp2_with fail
            obtain ⟨w9, hw9⟩ : ∃ w9, w9 = wr.drewN nq := ⟨_, rfl⟩
            have HW9 := hide (show wr.grownBy w9 none by rw [hw9]; exact gb_drewN (gb_refl wr none) nq)
            rw [← hw9]
            have q0 := cell_gb q0 HW9.out
            have q1 := cell_gb q1 HW9.out
            have q2 := cell_gb q2 HW9.out
            have q3 := cell_gb q3 HW9.out
            have k0 := cell_gb k0 HW9.out
            have k1 := cell_gb k1 HW9.out
            have k2 := cell_gb k2 HW9.out
            have k3 := cell_gb k3 HW9.out
            have ca := cell_gb ca HW9.out
            have ca' := cell_gb ca' HW9.out
            have HGR9 := hide (gb_trans HGRn.out HW9.out (.inl rfl))
            clear hw9 hgr
            go_quiet ((go_at_call 64; with_reducible exact quiet_l (HSG.out _ _ _)))
            go_wp2_with fail
            all_goals
              go_ret
              exact ⟨ret_i (by rw [HZ.out]; first | (rw [if_pos h]; done) | (rw [if_neg h]; simp; done) | simp), gb_trans HGA3.out (gb_drewN HGR9.out _) (.inl rfl)⟩
        have hje : j = a.n.length := by omega
        have HKn := hide (show lexC cmpI a.n b.n = 0 from lexC_end N0 HE.out (by omega) (by omega))
        have hlt1 : ¬ (j : Int) < (a.n.length : Int) := by omega
        clear hin hgr
        go_wp2_with fail
        go_loopw [6] (fun i wr => ∃ j : Nat, i = .int .i64 (j : Int) ∧ j ≤ a.s.length ∧ j ≤ b.s.length ∧ Hid (a.s.take j = b.s.take j) ∧ w3.grownBy wr none) (fun i _ => a.s.length - (intOf i).toNat)
        case atStart => exact ⟨0, rfl, by omega, by omega, hide rfl, HGRn.out⟩
        case round =>
          obtain ⟨j, rfl, hj, hj2, HE, hgr⟩ := hrel
          obtain ⟨q0, q1, q2, q3⟩ := HCA3.out.gb hgr
          obtain ⟨k0, k1, k2, k3⟩ := HCB3.out.gb hgr
          have HGRs := hide hgr
          by_cases hin : j < a.s.length ∧ j < b.s.length
          · have hlt := hin.1
            have hltm := hin.2
            have hlt1 : (j : Int) < (a.s.length : Int) := by omega
            have hlt2 : (j : Int) < (b.s.length : Int) := by omega
            obtain ⟨ad, rfl, _, ca⟩ := ((HVA.out.gb hgr (Nat.le_refl _)).s).str hlt
            obtain ⟨ad', rfl, _, ca'⟩ := ((HVB.out.gb hgr (Nat.le_refl _)).s).str hltm
            by_cases hx : a.s[j] = b.s[j]
            · have hx1 : (a.s[j].toList == b.s[j].toList) = true := ba_eq hx
              have HT := hide (take_eq_step HE.out hlt hltm hx)
              clear hx hin hgr
              go_wp2_with fail
              go_quiet (fail)
              go_wp2_with fail
              go_roundw
              case rel => exact ⟨j + 1, by go_num, by omega, by omega, HT, gb_drewN HGRs.out _⟩
              case measure => simp [intOf]; omega
            · have hx1 : (a.s[j].toList == b.s[j].toList) = false := ba_ne hx
              have HZ := hide (HZs.out j hlt hltm HE.out hx)
              clear hx hin
              go_wp2_with fail
              go_quiet (fail)
              go_wp2_with fail
              obtain ⟨w9, hw9⟩ : ∃ w9, w9 = wr.drewN nq := ⟨_, rfl⟩
              have HW9 := hide (show wr.grownBy w9 none by rw [hw9]; exact gb_drewN (gb_refl wr none) nq)
              rw [← hw9]
              have q0 := cell_gb q0 HW9.out
              have q1 := cell_gb q1 HW9.out
              have q2 := cell_gb q2 HW9.out
              have q3 := cell_gb q3 HW9.out
              have k0 := cell_gb k0 HW9.out
              have k1 := cell_gb k1 HW9.out
              have k2 := cell_gb k2 HW9.out
              have k3 := cell_gb k3 HW9.out
              have ca := cell_gb ca HW9.out
              have ca' := cell_gb ca' HW9.out
              have HGR9 := hide (gb_trans HGRs.out HW9.out (.inl rfl))
              clear hw9 hgr
              go_quiet ((go_at_call 64; with_reducible exact quiet_l (HSG.out _ _ _)))
              go_wp2_with fail
              all_goals
                go_ret
                exact ⟨ret_i (by rw [HZ.out]; first | (rw [if_pos h]; done) | (rw [if_neg h]; simp; done) | simp), gb_trans HGA3.out (gb_drewN HGR9.out _) (.inl rfl)⟩
          have hje : j = b.s.length := by omega
          have HK := lexC_long S0 HE.out (by omega) (by omega)
          have HZe := hide (show cmpV a b = 1 by rw [HD.out, thenC_eq HKn.out, thenC_ne (by rw [HK]; decide), HK])
          clear HK
          have hlt1 : (j : Int) < (a.s.length : Int) := by omega
          have hlt2 : ¬ (j : Int) < (b.s.length : Int) := by omega
          clear hin hgr
          go_wp2_with (go_at_call 64; refine (HSG.out _ _ _).mono ?_; rintro e wq ⟨rfl, rfl⟩)
          go_ret
          exact ⟨ret_i (by first | exact HZe.out.symm | (rw [HZe.out]; rfl) | (rw [HZe.out]; simp)), gb_trans HGA3.out HGRs.out (.inl rfl)⟩
    by_cases hll : a.l.length < b.l.length
    · skip
      go_enter Try.func30, Try.ntmps30
      go_wp2_with fail
      rw [← HWE.out]
      refine wp_region_facts' 4 (by kernel_rfl) (by kernel_rfl) ?_
      intro A O W L HA HO HW HL
      simp only [List.take_succ_cons, List.take_zero]
      have HS := hide (show A.tmps.size = 175 by rw [HA.out]; rfl)
      have HGW := hide (show wa.grownBy W none by rw [HW.out]; exact gb_drew (gb_refl wa none))
      have A2 := hide (show A.eval (.tmp 2) = .pointer (some ⟨w.heap.size, 0, none⟩) by rw [HA.out]; rfl)
      have A3 := hide (show A.eval (.tmp 3) = .pointer (some ⟨w.heap.size + 1, 0, none⟩) by rw [HA.out]; rfl)
      -- slot 9
      refine wpFacts_lit (.agg #[.int .i64 a.t, .slice nA a.n.length nc, .slice sA a.s.length sc, .slice lA a.l.length lc]) rfl ?_ ?_
      · intro aq wq hw hl
        have e2 : aq.tmps[2]?.getD undef = .pointer (some ⟨w.heap.size, 0, none⟩) := (hl 2 (by first | (simp [Op.operands]; done) | simp [Op.operands, Call.operands]) (by rw [HS.out]; decide)).trans A2.out
        obtain ⟨c0, c1, c2, c3⟩ := HCA.out.gb (gb_trans HGW.out hw (.inl rfl))
        clear hl
        go_simp
      -- slot 10
      refine wpFacts_step (fun vq _ => vq = .int .i64 r1) rfl (Lit.up _) ?_ ?_
      · intro aq wq hw hl
        have e9 : aq.tmps[9]?.getD undef = .agg #[.int .i64 a.t, .slice nA a.n.length nc, .slice sA a.s.length sc, .slice lA a.l.length lc] := hl 9 (by first | (simp [Op.operands]; done) | simp [Op.operands, Call.operands]) (by rw [HS.out]; decide)
        clear hl
        go_simp
        exact gUpon_lit (HRA.out _)
      -- slot 11
      refine wpFacts_lit (.agg #[.int .i64 b.t, .slice nA' b.n.length nc', .slice sA' b.s.length sc', .slice lA' b.l.length lc']) rfl ?_ ?_
      · intro aq wq hw hl
        have e3 : aq.tmps[3]?.getD undef = .pointer (some ⟨w.heap.size + 1, 0, none⟩) := (hl 3 (by first | (simp [Op.operands]; done) | simp [Op.operands, Call.operands]) (by rw [HS.out]; decide)).trans A3.out
        obtain ⟨c0, c1, c2, c3⟩ := HCB.out.gb (gb_trans HGW.out hw (.inl rfl))
        clear hl
        go_simp
      -- slot 12
      refine wpFacts_step (fun vq _ => vq = .int .i64 r2) rfl (Lit.up _) ?_ ?_
      · intro aq wq hw hl
        have e11 : aq.tmps[11]?.getD undef = .agg #[.int .i64 b.t, .slice nA' b.n.length nc', .slice sA' b.s.length sc', .slice lA' b.l.length lc'] := hl 11 (by first | (simp [Op.operands]; done) | simp [Op.operands, Call.operands]) (by rw [HS.out]; decide)
        clear hl
        go_simp
        exact gUpon_lit (HRB.out _)
      refine HL.out _ (fun a' w1 hc => ?_)
      have e10 : a'.eval (.tmp 10) = .int .i64 r1 := hc.fact 10 (by rw [HS.out]; decide)
      have e12 : a'.eval (.tmp 12) = .int .i64 r2 := hc.fact 12 (by rw [HS.out]; decide)
      have hgw1 := gb_trans HGW.out hc.grown (.inl rfl)
      have hfr := hc.frame [9, 10, 11, 12, 13] (by rw [HO.out]; kernel_rfl)
      rw [hfr]
      clear hfr hc
      rw [HA.out]
      clear HA HO HL HW HS HGW A2 A3
      clear A O W L
      simp only [List.drop_succ_cons, List.drop_zero, List.foldl_cons, List.foldl_nil, Act.put, List.setIfInBounds_toArray, List.set_cons_succ, List.set_cons_zero]
      rw [e10, e12]
      generalize a'.eval (.tmp 9) = x9
      generalize a'.eval (.tmp 11) = x11
      generalize a'.eval (.tmp 13) = x13
      clear e10 e12
      clear a'
      have HCA1 := hide (HCA.out.gb hgw1)
      have HCB1 := hide (HCB.out.gb hgw1)
      have HG1 := hide hgw1
      clear hgw1
      go_wp2_with fail
      refine wp_region_facts' 4 (by kernel_rfl) (by kernel_rfl) ?_
      intro A O W L HA HO HW HL
      simp only [List.take_succ_cons, List.take_zero]
      have HS := hide (show A.tmps.size = 175 by rw [HA.out]; rfl)
      have HGW := hide (show w1.grownBy W none by rw [HW.out]; exact gb_drew (gb_refl w1 none))
      have A2 := hide (show A.eval (.tmp 2) = .pointer (some ⟨w.heap.size, 0, none⟩) by rw [HA.out]; rfl)
      have A3 := hide (show A.eval (.tmp 3) = .pointer (some ⟨w.heap.size + 1, 0, none⟩) by rw [HA.out]; rfl)
      -- slot 20
      refine wpFacts_lit (.agg #[.int .i64 a.t, .slice nA a.n.length nc, .slice sA a.s.length sc, .slice lA a.l.length lc]) rfl ?_ ?_
      · intro aq wq hw hl
        have e2 : aq.tmps[2]?.getD undef = .pointer (some ⟨w.heap.size, 0, none⟩) := (hl 2 (by first | (simp [Op.operands]; done) | simp [Op.operands, Call.operands]) (by rw [HS.out]; decide)).trans A2.out
        obtain ⟨c0, c1, c2, c3⟩ := HCA1.out.gb (gb_trans HGW.out hw (.inl rfl))
        clear hl
        go_simp
      -- slot 21
      refine wpFacts_step (fun vq _ => vq = .bool pa) rfl (Lit.up _) ?_ ?_
      · intro aq wq hw hl
        have e20 : aq.tmps[20]?.getD undef = .agg #[.int .i64 a.t, .slice nA a.n.length nc, .slice sA a.s.length sc, .slice lA a.l.length lc] := hl 20 (by first | (simp [Op.operands]; done) | simp [Op.operands, Call.operands]) (by rw [HS.out]; decide)
        clear hl
        go_simp
        exact gUpon_lit (HTA.out _)
      -- slot 22
      refine wpFacts_lit (.agg #[.int .i64 b.t, .slice nA' b.n.length nc', .slice sA' b.s.length sc', .slice lA' b.l.length lc']) rfl ?_ ?_
      · intro aq wq hw hl
        have e3 : aq.tmps[3]?.getD undef = .pointer (some ⟨w.heap.size + 1, 0, none⟩) := (hl 3 (by first | (simp [Op.operands]; done) | simp [Op.operands, Call.operands]) (by rw [HS.out]; decide)).trans A3.out
        obtain ⟨c0, c1, c2, c3⟩ := HCB1.out.gb (gb_trans HGW.out hw (.inl rfl))
        clear hl
        go_simp
      -- slot 23
      refine wpFacts_step (fun vq _ => vq = .bool pa) rfl (Lit.up _) ?_ ?_
      · intro aq wq hw hl
        have e22 : aq.tmps[22]?.getD undef = .agg #[.int .i64 b.t, .slice nA' b.n.length nc', .slice sA' b.s.length sc', .slice lA' b.l.length lc'] := hl 22 (by first | (simp [Op.operands]; done) | simp [Op.operands, Call.operands]) (by rw [HS.out]; decide)
        clear hl
        go_simp
        exact gUpon_lit (HTB.out _)
      refine HL.out _ (fun a' w3 hc => ?_)
      have e21 : a'.eval (.tmp 21) = .bool pa := hc.fact 21 (by rw [HS.out]; decide)
      have e23 : a'.eval (.tmp 23) = .bool pa := hc.fact 23 (by rw [HS.out]; decide)
      have hgw3 := gb_trans HGW.out hc.grown (.inl rfl)
      have hfr := hc.frame [20, 21, 22, 23, 24] (by rw [HO.out]; kernel_rfl)
      rw [hfr]
      clear hfr hc
      rw [HA.out]
      clear HA HO HL HW HS HGW A2 A3
      clear A O W L
      simp only [List.drop_succ_cons, List.drop_zero, List.foldl_cons, List.foldl_nil, Act.put, List.setIfInBounds_toArray, List.set_cons_succ, List.set_cons_zero]
      rw [e21, e23]
      generalize a'.eval (.tmp 20) = x20
      generalize a'.eval (.tmp 22) = x22
      generalize a'.eval (.tmp 24) = x24
      clear e21 e23
      clear a'
      have HCA3 := hide (HCA1.out.gb hgw3)
      have HCB3 := hide (HCB1.out.gb hgw3)
      have HG3 := hide (gb_trans HG1.out hgw3 (.inl rfl))
      have HGA3 := hide (gb_trans HG.out HG3.out (.inl rfl))
      have HVA := hide ((HVA.out.gb HG3.out (Nat.le_refl _)).up HG3.out.size)
      have HVB := hide ((HVB.out.gb HG3.out (Nat.le_refl _)).up HG3.out.size)
      clear hgw3
      go_wp2_with fail
      go_loopw [5] (fun i wr => ∃ j : Nat, i = .int .i64 (j : Int) ∧ j ≤ a.n.length ∧ j ≤ b.n.length ∧ Hid (a.n.take j = b.n.take j) ∧ w3.grownBy wr none) (fun i _ => a.n.length - (intOf i).toNat)
      case atStart => exact ⟨0, rfl, by omega, by omega, hide rfl, gb_refl w3 none⟩
      case round =>
        obtain ⟨j, rfl, hj, hj2, HE, hgr⟩ := hrel
        obtain ⟨q0, q1, q2, q3⟩ := HCA3.out.gb hgr
        obtain ⟨k0, k1, k2, k3⟩ := HCB3.out.gb hgr
        have HGRn := hide hgr
        by_cases hin : j < a.n.length ∧ j < b.n.length
        · have hlt := hin.1
          have hltm := hin.2
          have hlt1 : (j : Int) < (a.n.length : Int) := by omega
          have hlt2 : (j : Int) < (b.n.length : Int) := by omega
          obtain ⟨ad, rfl, _, ca⟩ := ((HVA.out.gb hgr (Nat.le_refl _)).n).i64 hlt
          obtain ⟨ad', rfl, _, ca'⟩ := ((HVB.out.gb hgr (Nat.le_refl _)).n).i64 hltm
          by_cases hx : a.n[j] = b.n[j]
          · have hx1 : (a.n[j] != b.n[j]) = false := int_bne_t hx
            have HT := hide (take_eq_step HE.out hlt hltm hx)
            clear hx hin hgr
            go_wp2_with fail
            go_quiet (fail)
            go_wp2_with fail
            go_roundw
            case rel => exact ⟨j + 1, by go_num, by omega, by omega, HT, gb_drewN HGRn.out _⟩
            case measure => simp [intOf]; omega
          · have hx1 : (a.n[j] != b.n[j]) = true := int_bne_f hx
            have HZ := hide (HZn.out j hlt hltm HE.out hx)
            clear hx hin
            go_wp2_with fail
            go_quiet (fail)
            go_wp2_with fail
            obtain ⟨w9, hw9⟩ : ∃ w9, w9 = wr.drewN nq := ⟨_, rfl⟩
            have HW9 := hide (show wr.grownBy w9 none by rw [hw9]; exact gb_drewN (gb_refl wr none) nq)
            rw [← hw9]
            have q0 := cell_gb q0 HW9.out
            have q1 := cell_gb q1 HW9.out
            have q2 := cell_gb q2 HW9.out
            have q3 := cell_gb q3 HW9.out
            have k0 := cell_gb k0 HW9.out
            have k1 := cell_gb k1 HW9.out
            have k2 := cell_gb k2 HW9.out
            have k3 := cell_gb k3 HW9.out
            have ca := cell_gb ca HW9.out
            have ca' := cell_gb ca' HW9.out
            have HGR9 := hide (gb_trans HGRn.out HW9.out (.inl rfl))
            clear hw9 hgr
            go_quiet ((go_at_call 64; with_reducible exact quiet_l (HSG.out _ _ _)))
            go_wp2_with fail
            all_goals
              go_ret
              exact ⟨ret_i (by rw [HZ.out]; first | (rw [if_pos h]; done) | (rw [if_neg h]; simp; done) | simp), gb_trans HGA3.out (gb_drewN HGR9.out _) (.inl rfl)⟩
        have hje : j = a.n.length := by omega
        have HKn := hide (show lexC cmpI a.n b.n = 0 from lexC_end N0 HE.out (by omega) (by omega))
        have hlt1 : ¬ (j : Int) < (a.n.length : Int) := by omega
        clear hin hgr
        go_wp2_with fail
        go_loopw [6] (fun i wr => ∃ j : Nat, i = .int .i64 (j : Int) ∧ j ≤ a.s.length ∧ j ≤ b.s.length ∧ Hid (a.s.take j = b.s.take j) ∧ w3.grownBy wr none) (fun i _ => a.s.length - (intOf i).toNat)
        case atStart => exact ⟨0, rfl, by omega, by omega, hide rfl, HGRn.out⟩
        case round =>
          obtain ⟨j, rfl, hj, hj2, HE, hgr⟩ := hrel
          obtain ⟨q0, q1, q2, q3⟩ := HCA3.out.gb hgr
          obtain ⟨k0, k1, k2, k3⟩ := HCB3.out.gb hgr
          have HGRs := hide hgr
          by_cases hin : j < a.s.length ∧ j < b.s.length
          · have hlt := hin.1
            have hltm := hin.2
            have hlt1 : (j : Int) < (a.s.length : Int) := by omega
            have hlt2 : (j : Int) < (b.s.length : Int) := by omega
            obtain ⟨ad, rfl, _, ca⟩ := ((HVA.out.gb hgr (Nat.le_refl _)).s).str hlt
            obtain ⟨ad', rfl, _, ca'⟩ := ((HVB.out.gb hgr (Nat.le_refl _)).s).str hltm
            by_cases hx : a.s[j] = b.s[j]
            · have hx1 : (a.s[j].toList == b.s[j].toList) = true := ba_eq hx
              have HT := hide (take_eq_step HE.out hlt hltm hx)
              clear hx hin hgr
              go_wp2_with fail
              go_quiet (fail)
              go_wp2_with fail
              go_roundw
              case rel => exact ⟨j + 1, by go_num, by omega, by omega, HT, gb_drewN HGRs.out _⟩
              case measure => simp [intOf]; omega
            · have hx1 : (a.s[j].toList == b.s[j].toList) = false := ba_ne hx
              have HZ := hide (HZs.out j hlt hltm HE.out hx)
              clear hx hin
              go_wp2_with fail
              go_quiet (fail)
              go_wp2_with fail
              obtain ⟨w9, hw9⟩ : ∃ w9, w9 = wr.drewN nq := ⟨_, rfl⟩
              have HW9 := hide (show wr.grownBy w9 none by rw [hw9]; exact gb_drewN (gb_refl wr none) nq)
              rw [← hw9]
              have q0 := cell_gb q0 HW9.out
              have q1 := cell_gb q1 HW9.out
              have q2 := cell_gb q2 HW9.out
              have q3 := cell_gb q3 HW9.out
              have k0 := cell_gb k0 HW9.out
              have k1 := cell_gb k1 HW9.out
              have k2 := cell_gb k2 HW9.out
              have k3 := cell_gb k3 HW9.out
              have ca := cell_gb ca HW9.out
              have ca' := cell_gb ca' HW9.out
              have HGR9 := hide (gb_trans HGRs.out HW9.out (.inl rfl))
              clear hw9 hgr
              go_quiet ((go_at_call 64; with_reducible exact quiet_l (HSG.out _ _ _)))
              go_wp2_with fail
              all_goals
                go_ret
                exact ⟨ret_i (by rw [HZ.out]; first | (rw [if_pos h]; done) | (rw [if_neg h]; simp; done) | simp), gb_trans HGA3.out (gb_drewN HGR9.out _) (.inl rfl)⟩
          have hje : j = a.s.length := by omega
          have HKs := hide (show lexC cmpS a.s b.s = 0 from lexC_end S0 HE.out (by omega) (by omega))
          have hlt1 : ¬ (j : Int) < (a.s.length : Int) := by omega
          clear hin hgr
          go_wp2_with fail
          go_loopw [7, 8] (fun i _ wr => ∃ j : Nat, i = .int .i64 (j : Int) ∧ j ≤ a.l.length ∧ j ≤ b.l.length ∧ Hid (a.l.take j = b.l.take j) ∧ w3.grownBy wr none) (fun i _ _ => a.l.length - (intOf i).toNat)
          case atStart => exact ⟨0, rfl, by omega, by omega, hide rfl, HGRs.out⟩
          case round =>
            obtain ⟨j, rfl, hj, hj2, HE, hgr⟩ := hrel
            obtain ⟨q0, q1, q2, q3⟩ := HCA3.out.gb hgr
            obtain ⟨k0, k1, k2, k3⟩ := HCB3.out.gb hgr
            have HCAR := hide (HCA3.out.gb hgr)
            have HCBR := hide (HCB3.out.gb hgr)
            have HGRl := hide hgr
            by_cases hin : j < a.l.length ∧ j < b.l.length
            · have hlt := hin.1
              have hltm := hin.2
              have hlt1 : (j : Int) < (a.l.length : Int) := by omega
              have hlt2 : (j : Int) < (b.l.length : Int) := by omega
              obtain ⟨q, o, xA, xc, yA, yc, zA, zc, rfl, hqB, hc4, hvb⟩ := HVA.out.l.at_ hlt
              obtain ⟨q', o', xA', xc', yA', yc', zA', zc', rfl, hqB', hc4', hvb'⟩ := HVB.out.l.at_ hltm
              have HC4J := hide (hc4.gb hgr)
              have HC4K := hide (hc4'.gb hgr)
              have HREC := hide (fun wq (k : wr.grownBy wq none) => IH.out a.l[j] b.l[j] wq w3.heap.size xA xc yA yc zA zc xA' xc' yA' yc' zA' zc' (HOA.out _ (List.getElem_mem hlt)) (HOB.out _ (List.getElem_mem hltm)) (HPA.out _ (List.getElem_mem hlt)) (HPB.out _ (List.getElem_mem hltm)) (Nat.le_trans hgr.size k.size) (hvb.gb (gb_trans hgr k (.inl rfl)) (Nat.le_refl _)) (hvb'.gb (gb_trans hgr k (.inl rfl)) (Nat.le_refl _)))
              have HZJ : Hid (cmpV a.l[j] b.l[j] ≠ 0 → cmpV a b = cmpV a.l[j] b.l[j]) := hide (fun hx => by rw [HD.out, thenC_eq HKn.out, thenC_eq HKs.out, lexC_ne V0 HE.out hlt hltm hx])
              have HEQ := hide (fun (hx : cmpV a.l[j] b.l[j] = 0) => take_eq_step HE.out hlt hltm ((cmpV_all.same _ _).1 hx))
              clear hc4 hc4' hvb hvb' hgr hin
              generalize cmpV a.l[j] b.l[j] = y at HREC HZJ HEQ
              go_wp2_with fail
              refine wp_region_facts' 11 (by kernel_rfl) (by kernel_rfl) ?_
              intro A O W L HA HO HW HL
              simp only [List.take_succ_cons, List.take_zero]
              have HS := hide (show A.tmps.size = 175 by rw [HA.out]; rfl)
              have HGW := hide (show wr.grownBy W none by rw [HW.out]; exact gb_drew (gb_refl wr none))
              have A2 := hide (show A.eval (.tmp 2) = .pointer (some ⟨w.heap.size, 0, none⟩) by rw [HA.out]; rfl)
              have A3 := hide (show A.eval (.tmp 3) = .pointer (some ⟨w.heap.size + 1, 0, none⟩) by rw [HA.out]; rfl)
              have A7 := hide (show A.eval (.tmp 7) = .int .i64 (j : Int) by rw [HA.out]; rfl)
              -- slot 146
              refine wpFacts_lit (.pointer (some ⟨w.heap.size, 3, none⟩)) rfl ?_ ?_
              · intro aq wq hw hl
                have e2 : aq.tmps[2]?.getD undef = .pointer (some ⟨w.heap.size, 0, none⟩) := (hl 2 (by first | (simp [Op.operands]; done) | simp [Op.operands, Call.operands]) (by rw [HS.out]; decide)).trans A2.out
                clear hl
                go_simp
              -- slot 147
              refine wpFacts_lit (.slice (some ⟨q, o, none⟩) a.l.length lc) rfl ?_ ?_
              · intro aq wq hw hl
                have e146 : aq.tmps[146]?.getD undef = .pointer (some ⟨w.heap.size, 3, none⟩) := hl 146 (by first | (simp [Op.operands]; done) | simp [Op.operands, Call.operands]) (by rw [HS.out]; decide)
                have c3 := (HCAR.out.gb (gb_trans HGW.out hw (.inl rfl))).c3
                clear hl
                go_simp
              -- slot 148
              refine wpFacts_lit (.int .i64 (j : Int)) rfl ?_ ?_
              · intro aq wq hw hl
                have e7 : aq.tmps[7]?.getD undef = .int .i64 (j : Int) := (hl 7 (by first | (simp [Op.operands]; done) | simp [Op.operands, Call.operands]) (by rw [HS.out]; decide)).trans A7.out
                clear hl
                go_simp
              -- slot 149
              refine wpFacts_lit (.pointer (some ⟨q, o + j * 4, none⟩)) rfl ?_ ?_
              · intro aq wq hw hl
                have e147 : aq.tmps[147]?.getD undef = .slice (some ⟨q, o, none⟩) a.l.length lc := hl 147 (by first | (simp [Op.operands]; done) | simp [Op.operands, Call.operands]) (by rw [HS.out]; decide)
                have e148 : aq.tmps[148]?.getD undef = .int .i64 (j : Int) := hl 148 (by first | (simp [Op.operands]; done) | simp [Op.operands, Call.operands]) (by rw [HS.out]; decide)
                clear hl
                go_simp
              -- slot 150
              refine wpFacts_lit (.agg #[.int .i64 a.l[j].t, .slice xA a.l[j].n.length xc, .slice yA a.l[j].s.length yc, .slice zA a.l[j].l.length zc]) rfl ?_ ?_
              · intro aq wq hw hl
                have e149 : aq.tmps[149]?.getD undef = .pointer (some ⟨q, o + j * 4, none⟩) := hl 149 (by first | (simp [Op.operands]; done) | simp [Op.operands, Call.operands]) (by rw [HS.out]; decide)
                obtain ⟨c0, c1, c2, c3⟩ := HC4J.out.gb (gb_trans HGW.out hw (.inl rfl))
                clear hl
                go_simp
              -- slot 151
              refine wpFacts_lit (.pointer (some ⟨w.heap.size + 1, 3, none⟩)) rfl ?_ ?_
              · intro aq wq hw hl
                have e3 : aq.tmps[3]?.getD undef = .pointer (some ⟨w.heap.size + 1, 0, none⟩) := (hl 3 (by first | (simp [Op.operands]; done) | simp [Op.operands, Call.operands]) (by rw [HS.out]; decide)).trans A3.out
                clear hl
                go_simp
              -- slot 152
              refine wpFacts_lit (.slice (some ⟨q', o', none⟩) b.l.length lc') rfl ?_ ?_
              · intro aq wq hw hl
                have e151 : aq.tmps[151]?.getD undef = .pointer (some ⟨w.heap.size + 1, 3, none⟩) := hl 151 (by first | (simp [Op.operands]; done) | simp [Op.operands, Call.operands]) (by rw [HS.out]; decide)
                have c3 := (HCBR.out.gb (gb_trans HGW.out hw (.inl rfl))).c3
                clear hl
                go_simp
              -- slot 153
              refine wpFacts_lit (.int .i64 (j : Int)) rfl ?_ ?_
              · intro aq wq hw hl
                have e7 : aq.tmps[7]?.getD undef = .int .i64 (j : Int) := (hl 7 (by first | (simp [Op.operands]; done) | simp [Op.operands, Call.operands]) (by rw [HS.out]; decide)).trans A7.out
                clear hl
                go_simp
              -- slot 154
              refine wpFacts_lit (.pointer (some ⟨q', o' + j * 4, none⟩)) rfl ?_ ?_
              · intro aq wq hw hl
                have e152 : aq.tmps[152]?.getD undef = .slice (some ⟨q', o', none⟩) b.l.length lc' := hl 152 (by first | (simp [Op.operands]; done) | simp [Op.operands, Call.operands]) (by rw [HS.out]; decide)
                have e153 : aq.tmps[153]?.getD undef = .int .i64 (j : Int) := hl 153 (by first | (simp [Op.operands]; done) | simp [Op.operands, Call.operands]) (by rw [HS.out]; decide)
                clear hl
                go_simp
              -- slot 155
              refine wpFacts_lit (.agg #[.int .i64 b.l[j].t, .slice xA' b.l[j].n.length xc', .slice yA' b.l[j].s.length yc', .slice zA' b.l[j].l.length zc']) rfl ?_ ?_
              · intro aq wq hw hl
                have e154 : aq.tmps[154]?.getD undef = .pointer (some ⟨q', o' + j * 4, none⟩) := hl 154 (by first | (simp [Op.operands]; done) | simp [Op.operands, Call.operands]) (by rw [HS.out]; decide)
                obtain ⟨c0, c1, c2, c3⟩ := HC4K.out.gb (gb_trans HGW.out hw (.inl rfl))
                clear hl
                go_simp
              -- slot 156
              refine wpFacts_step (fun vq _ => vq = .int .i64 y) rfl (Lit.up _) ?_ ?_
              · intro aq wq hw hl
                have e150 : aq.tmps[150]?.getD undef = .agg #[.int .i64 a.l[j].t, .slice xA a.l[j].n.length xc, .slice yA a.l[j].s.length yc, .slice zA a.l[j].l.length zc] := hl 150 (by first | (simp [Op.operands]; done) | simp [Op.operands, Call.operands]) (by rw [HS.out]; decide)
                have e155 : aq.tmps[155]?.getD undef = .agg #[.int .i64 b.l[j].t, .slice xA' b.l[j].n.length xc', .slice yA' b.l[j].s.length yc', .slice zA' b.l[j].l.length zc'] := hl 155 (by first | (simp [Op.operands]; done) | simp [Op.operands, Call.operands]) (by rw [HS.out]; decide)
                clear hl
                go_simp
                exact gUpon_lit (HREC.out wq (gb_trans HGW.out hw (.inl rfl)))
              refine HL.out _ (fun a' w9 hc => ?_)
              have e156 : a'.eval (.tmp 156) = .int .i64 y := hc.fact 156 (by rw [HS.out]; decide)
              have hgw9 := gb_trans HGW.out hc.grown (.inl rfl)
              have hfr := hc.frame [146, 147, 148, 149, 150, 151, 152, 153, 154, 155, 156, 8] (by rw [HO.out]; kernel_rfl)
              rw [hfr]
              clear hfr hc
              rw [HA.out]
              clear HA HO HL HW HS HGW A2 A3 A7
              clear A O W L
              simp only [List.drop_succ_cons, List.drop_zero, List.foldl_cons, List.foldl_nil, Act.put, List.setIfInBounds_toArray, List.set_cons_succ, List.set_cons_zero]
              rw [e156]
              generalize a'.eval (.tmp 146) = x146
              generalize a'.eval (.tmp 147) = x147
              generalize a'.eval (.tmp 148) = x148
              generalize a'.eval (.tmp 149) = x149
              generalize a'.eval (.tmp 150) = x150
              generalize a'.eval (.tmp 151) = x151
              generalize a'.eval (.tmp 152) = x152
              generalize a'.eval (.tmp 153) = x153
              generalize a'.eval (.tmp 154) = x154
              generalize a'.eval (.tmp 155) = x155
              generalize a'.eval (.tmp 8) = x8
              clear e156
              clear a'
              have HG9 := hide (gb_trans HGRl.out hgw9 (.inl rfl))
              clear hgw9 HREC
              by_cases hy : y = 0
              · have hy1 : (y != 0) = false := int_bne_t hy
                have HT := hide (HEQ.out hy)
                clear hy HZJ HEQ
                go_wp2_with fail
                go_roundw
                case rel => exact ⟨j + 1, by go_num, by omega, by omega, HT, HG9.out⟩
                case measure => simp [intOf]; omega
              · have hy1 : (y != 0) = true := int_bne_f hy
                have HT := hide (HZJ.out hy)
                clear hy HZJ HEQ
                go_wp2_with fail
                go_ret
                exact ⟨ret_i HT.out.symm, gb_trans HGA3.out HG9.out (.inl rfl)⟩
            have hlt1 : ¬ (j : Int) < (a.l.length : Int) := by omega
            have HK := lexC_short V0 HE.out (by omega) (by omega)
            have HZe := hide (show cmpV a b = -1 by rw [HD.out, thenC_eq HKn.out, thenC_eq HKs.out, HK])
            clear HK
            clear hin hgr
            go_wp2_with (go_at_call 64; refine (HSG.out _ _ _).mono ?_; rintro e wq ⟨rfl, rfl⟩)
            go_ret
            exact ⟨ret_i (by first | exact HZe.out.symm | (rw [HZe.out]; rfl) | (rw [HZe.out]; simp)), gb_trans HGA3.out HGRl.out (.inl rfl)⟩
    by_cases hlg : b.l.length < a.l.length
    · skip
      go_enter Try.func30, Try.ntmps30
      go_wp2_with fail
      rw [← HWE.out]
      refine wp_region_facts' 4 (by kernel_rfl) (by kernel_rfl) ?_
      intro A O W L HA HO HW HL
      simp only [List.take_succ_cons, List.take_zero]
      have HS := hide (show A.tmps.size = 175 by rw [HA.out]; rfl)
      have HGW := hide (show wa.grownBy W none by rw [HW.out]; exact gb_drew (gb_refl wa none))
      have A2 := hide (show A.eval (.tmp 2) = .pointer (some ⟨w.heap.size, 0, none⟩) by rw [HA.out]; rfl)
      have A3 := hide (show A.eval (.tmp 3) = .pointer (some ⟨w.heap.size + 1, 0, none⟩) by rw [HA.out]; rfl)
      -- slot 9
      refine wpFacts_lit (.agg #[.int .i64 a.t, .slice nA a.n.length nc, .slice sA a.s.length sc, .slice lA a.l.length lc]) rfl ?_ ?_
      · intro aq wq hw hl
        have e2 : aq.tmps[2]?.getD undef = .pointer (some ⟨w.heap.size, 0, none⟩) := (hl 2 (by first | (simp [Op.operands]; done) | simp [Op.operands, Call.operands]) (by rw [HS.out]; decide)).trans A2.out
        obtain ⟨c0, c1, c2, c3⟩ := HCA.out.gb (gb_trans HGW.out hw (.inl rfl))
        clear hl
        go_simp
      -- slot 10
      refine wpFacts_step (fun vq _ => vq = .int .i64 r1) rfl (Lit.up _) ?_ ?_
      · intro aq wq hw hl
        have e9 : aq.tmps[9]?.getD undef = .agg #[.int .i64 a.t, .slice nA a.n.length nc, .slice sA a.s.length sc, .slice lA a.l.length lc] := hl 9 (by first | (simp [Op.operands]; done) | simp [Op.operands, Call.operands]) (by rw [HS.out]; decide)
        clear hl
        go_simp
        exact gUpon_lit (HRA.out _)
      -- slot 11
      refine wpFacts_lit (.agg #[.int .i64 b.t, .slice nA' b.n.length nc', .slice sA' b.s.length sc', .slice lA' b.l.length lc']) rfl ?_ ?_
      · intro aq wq hw hl
        have e3 : aq.tmps[3]?.getD undef = .pointer (some ⟨w.heap.size + 1, 0, none⟩) := (hl 3 (by first | (simp [Op.operands]; done) | simp [Op.operands, Call.operands]) (by rw [HS.out]; decide)).trans A3.out
        obtain ⟨c0, c1, c2, c3⟩ := HCB.out.gb (gb_trans HGW.out hw (.inl rfl))
        clear hl
        go_simp
      -- slot 12
      refine wpFacts_step (fun vq _ => vq = .int .i64 r2) rfl (Lit.up _) ?_ ?_
      · intro aq wq hw hl
        have e11 : aq.tmps[11]?.getD undef = .agg #[.int .i64 b.t, .slice nA' b.n.length nc', .slice sA' b.s.length sc', .slice lA' b.l.length lc'] := hl 11 (by first | (simp [Op.operands]; done) | simp [Op.operands, Call.operands]) (by rw [HS.out]; decide)
        clear hl
        go_simp
        exact gUpon_lit (HRB.out _)
      refine HL.out _ (fun a' w1 hc => ?_)
      have e10 : a'.eval (.tmp 10) = .int .i64 r1 := hc.fact 10 (by rw [HS.out]; decide)
      have e12 : a'.eval (.tmp 12) = .int .i64 r2 := hc.fact 12 (by rw [HS.out]; decide)
      have hgw1 := gb_trans HGW.out hc.grown (.inl rfl)
      have hfr := hc.frame [9, 10, 11, 12, 13] (by rw [HO.out]; kernel_rfl)
      rw [hfr]
      clear hfr hc
      rw [HA.out]
      clear HA HO HL HW HS HGW A2 A3
      clear A O W L
      simp only [List.drop_succ_cons, List.drop_zero, List.foldl_cons, List.foldl_nil, Act.put, List.setIfInBounds_toArray, List.set_cons_succ, List.set_cons_zero]
      rw [e10, e12]
      generalize a'.eval (.tmp 9) = x9
      generalize a'.eval (.tmp 11) = x11
      generalize a'.eval (.tmp 13) = x13
      clear e10 e12
      clear a'
      have HCA1 := hide (HCA.out.gb hgw1)
      have HCB1 := hide (HCB.out.gb hgw1)
      have HG1 := hide hgw1
      clear hgw1
      go_wp2_with fail
      refine wp_region_facts' 4 (by kernel_rfl) (by kernel_rfl) ?_
      intro A O W L HA HO HW HL
      simp only [List.take_succ_cons, List.take_zero]
      have HS := hide (show A.tmps.size = 175 by rw [HA.out]; rfl)
      have HGW := hide (show w1.grownBy W none by rw [HW.out]; exact gb_drew (gb_refl w1 none))
      have A2 := hide (show A.eval (.tmp 2) = .pointer (some ⟨w.heap.size, 0, none⟩) by rw [HA.out]; rfl)
      have A3 := hide (show A.eval (.tmp 3) = .pointer (some ⟨w.heap.size + 1, 0, none⟩) by rw [HA.out]; rfl)
      -- slot 20
      refine wpFacts_lit (.agg #[.int .i64 a.t, .slice nA a.n.length nc, .slice sA a.s.length sc, .slice lA a.l.length lc]) rfl ?_ ?_
      · intro aq wq hw hl
        have e2 : aq.tmps[2]?.getD undef = .pointer (some ⟨w.heap.size, 0, none⟩) := (hl 2 (by first | (simp [Op.operands]; done) | simp [Op.operands, Call.operands]) (by rw [HS.out]; decide)).trans A2.out
        obtain ⟨c0, c1, c2, c3⟩ := HCA1.out.gb (gb_trans HGW.out hw (.inl rfl))
        clear hl
        go_simp
      -- slot 21
      refine wpFacts_step (fun vq _ => vq = .bool pa) rfl (Lit.up _) ?_ ?_
      · intro aq wq hw hl
        have e20 : aq.tmps[20]?.getD undef = .agg #[.int .i64 a.t, .slice nA a.n.length nc, .slice sA a.s.length sc, .slice lA a.l.length lc] := hl 20 (by first | (simp [Op.operands]; done) | simp [Op.operands, Call.operands]) (by rw [HS.out]; decide)
        clear hl
        go_simp
        exact gUpon_lit (HTA.out _)
      -- slot 22
      refine wpFacts_lit (.agg #[.int .i64 b.t, .slice nA' b.n.length nc', .slice sA' b.s.length sc', .slice lA' b.l.length lc']) rfl ?_ ?_
      · intro aq wq hw hl
        have e3 : aq.tmps[3]?.getD undef = .pointer (some ⟨w.heap.size + 1, 0, none⟩) := (hl 3 (by first | (simp [Op.operands]; done) | simp [Op.operands, Call.operands]) (by rw [HS.out]; decide)).trans A3.out
        obtain ⟨c0, c1, c2, c3⟩ := HCB1.out.gb (gb_trans HGW.out hw (.inl rfl))
        clear hl
        go_simp
      -- slot 23
      refine wpFacts_step (fun vq _ => vq = .bool pa) rfl (Lit.up _) ?_ ?_
      · intro aq wq hw hl
        have e22 : aq.tmps[22]?.getD undef = .agg #[.int .i64 b.t, .slice nA' b.n.length nc', .slice sA' b.s.length sc', .slice lA' b.l.length lc'] := hl 22 (by first | (simp [Op.operands]; done) | simp [Op.operands, Call.operands]) (by rw [HS.out]; decide)
        clear hl
        go_simp
        exact gUpon_lit (HTB.out _)
      refine HL.out _ (fun a' w3 hc => ?_)
      have e21 : a'.eval (.tmp 21) = .bool pa := hc.fact 21 (by rw [HS.out]; decide)
      have e23 : a'.eval (.tmp 23) = .bool pa := hc.fact 23 (by rw [HS.out]; decide)
      have hgw3 := gb_trans HGW.out hc.grown (.inl rfl)
      have hfr := hc.frame [20, 21, 22, 23, 24] (by rw [HO.out]; kernel_rfl)
      rw [hfr]
      clear hfr hc
      rw [HA.out]
      clear HA HO HL HW HS HGW A2 A3
      clear A O W L
      simp only [List.drop_succ_cons, List.drop_zero, List.foldl_cons, List.foldl_nil, Act.put, List.setIfInBounds_toArray, List.set_cons_succ, List.set_cons_zero]
      rw [e21, e23]
      generalize a'.eval (.tmp 20) = x20
      generalize a'.eval (.tmp 22) = x22
      generalize a'.eval (.tmp 24) = x24
      clear e21 e23
      clear a'
      have HCA3 := hide (HCA1.out.gb hgw3)
      have HCB3 := hide (HCB1.out.gb hgw3)
      have HG3 := hide (gb_trans HG1.out hgw3 (.inl rfl))
      have HGA3 := hide (gb_trans HG.out HG3.out (.inl rfl))
      have HVA := hide ((HVA.out.gb HG3.out (Nat.le_refl _)).up HG3.out.size)
      have HVB := hide ((HVB.out.gb HG3.out (Nat.le_refl _)).up HG3.out.size)
      clear hgw3
      go_wp2_with fail
      go_loopw [5] (fun i wr => ∃ j : Nat, i = .int .i64 (j : Int) ∧ j ≤ a.n.length ∧ j ≤ b.n.length ∧ Hid (a.n.take j = b.n.take j) ∧ w3.grownBy wr none) (fun i _ => a.n.length - (intOf i).toNat)
      case atStart => exact ⟨0, rfl, by omega, by omega, hide rfl, gb_refl w3 none⟩
      case round =>
        obtain ⟨j, rfl, hj, hj2, HE, hgr⟩ := hrel
        obtain ⟨q0, q1, q2, q3⟩ := HCA3.out.gb hgr
        obtain ⟨k0, k1, k2, k3⟩ := HCB3.out.gb hgr
        have HGRn := hide hgr
        by_cases hin : j < a.n.length ∧ j < b.n.length
        · have hlt := hin.1
          have hltm := hin.2
          have hlt1 : (j : Int) < (a.n.length : Int) := by omega
          have hlt2 : (j : Int) < (b.n.length : Int) := by omega
          obtain ⟨ad, rfl, _, ca⟩ := ((HVA.out.gb hgr (Nat.le_refl _)).n).i64 hlt
          obtain ⟨ad', rfl, _, ca'⟩ := ((HVB.out.gb hgr (Nat.le_refl _)).n).i64 hltm
          by_cases hx : a.n[j] = b.n[j]
          · have hx1 : (a.n[j] != b.n[j]) = false := int_bne_t hx
            have HT := hide (take_eq_step HE.out hlt hltm hx)
            clear hx hin hgr
            go_wp2_with fail
            go_quiet (fail)
            go_wp2_with fail
            go_roundw
            case rel => exact ⟨j + 1, by go_num, by omega, by omega, HT, gb_drewN HGRn.out _⟩
            case measure => simp [intOf]; omega
          · have hx1 : (a.n[j] != b.n[j]) = true := int_bne_f hx
            have HZ := hide (HZn.out j hlt hltm HE.out hx)
            clear hx hin
            go_wp2_with fail
            go_quiet (fail)
            go_wp2_with fail
            obtain ⟨w9, hw9⟩ : ∃ w9, w9 = wr.drewN nq := ⟨_, rfl⟩
            have HW9 := hide (show wr.grownBy w9 none by rw [hw9]; exact gb_drewN (gb_refl wr none) nq)
            rw [← hw9]
            have q0 := cell_gb q0 HW9.out
            have q1 := cell_gb q1 HW9.out
            have q2 := cell_gb q2 HW9.out
            have q3 := cell_gb q3 HW9.out
            have k0 := cell_gb k0 HW9.out
            have k1 := cell_gb k1 HW9.out
            have k2 := cell_gb k2 HW9.out
            have k3 := cell_gb k3 HW9.out
            have ca := cell_gb ca HW9.out
            have ca' := cell_gb ca' HW9.out
            have HGR9 := hide (gb_trans HGRn.out HW9.out (.inl rfl))
            clear hw9 hgr
            go_quiet ((go_at_call 64; with_reducible exact quiet_l (HSG.out _ _ _)))
            go_wp2_with fail
            all_goals
              go_ret
              exact ⟨ret_i (by rw [HZ.out]; first | (rw [if_pos h]; done) | (rw [if_neg h]; simp; done) | simp), gb_trans HGA3.out (gb_drewN HGR9.out _) (.inl rfl)⟩
        have hje : j = a.n.length := by omega
        have HKn := hide (show lexC cmpI a.n b.n = 0 from lexC_end N0 HE.out (by omega) (by omega))
        have hlt1 : ¬ (j : Int) < (a.n.length : Int) := by omega
        clear hin hgr
        go_wp2_with fail
        go_loopw [6] (fun i wr => ∃ j : Nat, i = .int .i64 (j : Int) ∧ j ≤ a.s.length ∧ j ≤ b.s.length ∧ Hid (a.s.take j = b.s.take j) ∧ w3.grownBy wr none) (fun i _ => a.s.length - (intOf i).toNat)
        case atStart => exact ⟨0, rfl, by omega, by omega, hide rfl, HGRn.out⟩
        case round =>
          obtain ⟨j, rfl, hj, hj2, HE, hgr⟩ := hrel
          obtain ⟨q0, q1, q2, q3⟩ := HCA3.out.gb hgr
          obtain ⟨k0, k1, k2, k3⟩ := HCB3.out.gb hgr
          have HGRs := hide hgr
          by_cases hin : j < a.s.length ∧ j < b.s.length
          · have hlt := hin.1
            have hltm := hin.2
            have hlt1 : (j : Int) < (a.s.length : Int) := by omega
            have hlt2 : (j : Int) < (b.s.length : Int) := by omega
            obtain ⟨ad, rfl, _, ca⟩ := ((HVA.out.gb hgr (Nat.le_refl _)).s).str hlt
            obtain ⟨ad', rfl, _, ca'⟩ := ((HVB.out.gb hgr (Nat.le_refl _)).s).str hltm
            by_cases hx : a.s[j] = b.s[j]
            · have hx1 : (a.s[j].toList == b.s[j].toList) = true := ba_eq hx
              have HT := hide (take_eq_step HE.out hlt hltm hx)
              clear hx hin hgr
              go_wp2_with fail
              go_quiet (fail)
              go_wp2_with fail
              go_roundw
              case rel => exact ⟨j + 1, by go_num, by omega, by omega, HT, gb_drewN HGRs.out _⟩
              case measure => simp [intOf]; omega
            · have hx1 : (a.s[j].toList == b.s[j].toList) = false := ba_ne hx
              have HZ := hide (HZs.out j hlt hltm HE.out hx)
              clear hx hin
              go_wp2_with fail
              go_quiet (fail)
              go_wp2_with fail
              obtain ⟨w9, hw9⟩ : ∃ w9, w9 = wr.drewN nq := ⟨_, rfl⟩
              have HW9 := hide (show wr.grownBy w9 none by rw [hw9]; exact gb_drewN (gb_refl wr none) nq)
              rw [← hw9]
              have q0 := cell_gb q0 HW9.out
              have q1 := cell_gb q1 HW9.out
              have q2 := cell_gb q2 HW9.out
              have q3 := cell_gb q3 HW9.out
              have k0 := cell_gb k0 HW9.out
              have k1 := cell_gb k1 HW9.out
              have k2 := cell_gb k2 HW9.out
              have k3 := cell_gb k3 HW9.out
              have ca := cell_gb ca HW9.out
              have ca' := cell_gb ca' HW9.out
              have HGR9 := hide (gb_trans HGRs.out HW9.out (.inl rfl))
              clear hw9 hgr
              go_quiet ((go_at_call 64; with_reducible exact quiet_l (HSG.out _ _ _)))
              go_wp2_with fail
              all_goals
                go_ret
                exact ⟨ret_i (by rw [HZ.out]; first | (rw [if_pos h]; done) | (rw [if_neg h]; simp; done) | simp), gb_trans HGA3.out (gb_drewN HGR9.out _) (.inl rfl)⟩
          have hje : j = a.s.length := by omega
          have HKs := hide (show lexC cmpS a.s b.s = 0 from lexC_end S0 HE.out (by omega) (by omega))
          have hlt1 : ¬ (j : Int) < (a.s.length : Int) := by omega
          clear hin hgr
          go_wp2_with fail
          go_loopw [7, 8] (fun i _ wr => ∃ j : Nat, i = .int .i64 (j : Int) ∧ j ≤ a.l.length ∧ j ≤ b.l.length ∧ Hid (a.l.take j = b.l.take j) ∧ w3.grownBy wr none) (fun i _ _ => a.l.length - (intOf i).toNat)
          case atStart => exact ⟨0, rfl, by omega, by omega, hide rfl, HGRs.out⟩
          case round =>
            obtain ⟨j, rfl, hj, hj2, HE, hgr⟩ := hrel
            obtain ⟨q0, q1, q2, q3⟩ := HCA3.out.gb hgr
            obtain ⟨k0, k1, k2, k3⟩ := HCB3.out.gb hgr
            have HCAR := hide (HCA3.out.gb hgr)
            have HCBR := hide (HCB3.out.gb hgr)
            have HGRl := hide hgr
            by_cases hin : j < a.l.length ∧ j < b.l.length
            · have hlt := hin.1
              have hltm := hin.2
              have hlt1 : (j : Int) < (a.l.length : Int) := by omega
              have hlt2 : (j : Int) < (b.l.length : Int) := by omega
              obtain ⟨q, o, xA, xc, yA, yc, zA, zc, rfl, hqB, hc4, hvb⟩ := HVA.out.l.at_ hlt
              obtain ⟨q', o', xA', xc', yA', yc', zA', zc', rfl, hqB', hc4', hvb'⟩ := HVB.out.l.at_ hltm
              have HC4J := hide (hc4.gb hgr)
              have HC4K := hide (hc4'.gb hgr)
              have HREC := hide (fun wq (k : wr.grownBy wq none) => IH.out a.l[j] b.l[j] wq w3.heap.size xA xc yA yc zA zc xA' xc' yA' yc' zA' zc' (HOA.out _ (List.getElem_mem hlt)) (HOB.out _ (List.getElem_mem hltm)) (HPA.out _ (List.getElem_mem hlt)) (HPB.out _ (List.getElem_mem hltm)) (Nat.le_trans hgr.size k.size) (hvb.gb (gb_trans hgr k (.inl rfl)) (Nat.le_refl _)) (hvb'.gb (gb_trans hgr k (.inl rfl)) (Nat.le_refl _)))
              have HZJ : Hid (cmpV a.l[j] b.l[j] ≠ 0 → cmpV a b = cmpV a.l[j] b.l[j]) := hide (fun hx => by rw [HD.out, thenC_eq HKn.out, thenC_eq HKs.out, lexC_ne V0 HE.out hlt hltm hx])
              have HEQ := hide (fun (hx : cmpV a.l[j] b.l[j] = 0) => take_eq_step HE.out hlt hltm ((cmpV_all.same _ _).1 hx))
              clear hc4 hc4' hvb hvb' hgr hin
              generalize cmpV a.l[j] b.l[j] = y at HREC HZJ HEQ
              go_wp2_with fail
              refine wp_region_facts' 11 (by kernel_rfl) (by kernel_rfl) ?_
              intro A O W L HA HO HW HL
              simp only [List.take_succ_cons, List.take_zero]
              have HS := hide (show A.tmps.size = 175 by rw [HA.out]; rfl)
              have HGW := hide (show wr.grownBy W none by rw [HW.out]; exact gb_drew (gb_refl wr none))
              have A2 := hide (show A.eval (.tmp 2) = .pointer (some ⟨w.heap.size, 0, none⟩) by rw [HA.out]; rfl)
              have A3 := hide (show A.eval (.tmp 3) = .pointer (some ⟨w.heap.size + 1, 0, none⟩) by rw [HA.out]; rfl)
              have A7 := hide (show A.eval (.tmp 7) = .int .i64 (j : Int) by rw [HA.out]; rfl)
              -- slot 146
              refine wpFacts_lit (.pointer (some ⟨w.heap.size, 3, none⟩)) rfl ?_ ?_
              · intro aq wq hw hl
                have e2 : aq.tmps[2]?.getD undef = .pointer (some ⟨w.heap.size, 0, none⟩) := (hl 2 (by first | (simp [Op.operands]; done) | simp [Op.operands, Call.operands]) (by rw [HS.out]; decide)).trans A2.out
                clear hl
                go_simp
              -- slot 147
              refine wpFacts_lit (.slice (some ⟨q, o, none⟩) a.l.length lc) rfl ?_ ?_
              · intro aq wq hw hl
                have e146 : aq.tmps[146]?.getD undef = .pointer (some ⟨w.heap.size, 3, none⟩) := hl 146 (by first | (simp [Op.operands]; done) | simp [Op.operands, Call.operands]) (by rw [HS.out]; decide)
                have c3 := (HCAR.out.gb (gb_trans HGW.out hw (.inl rfl))).c3
                clear hl
                go_simp
              -- slot 148
              refine wpFacts_lit (.int .i64 (j : Int)) rfl ?_ ?_
              · intro aq wq hw hl
                have e7 : aq.tmps[7]?.getD undef = .int .i64 (j : Int) := (hl 7 (by first | (simp [Op.operands]; done) | simp [Op.operands, Call.operands]) (by rw [HS.out]; decide)).trans A7.out
                clear hl
                go_simp
              -- slot 149
              refine wpFacts_lit (.pointer (some ⟨q, o + j * 4, none⟩)) rfl ?_ ?_
              · intro aq wq hw hl
                have e147 : aq.tmps[147]?.getD undef = .slice (some ⟨q, o, none⟩) a.l.length lc := hl 147 (by first | (simp [Op.operands]; done) | simp [Op.operands, Call.operands]) (by rw [HS.out]; decide)
                have e148 : aq.tmps[148]?.getD undef = .int .i64 (j : Int) := hl 148 (by first | (simp [Op.operands]; done) | simp [Op.operands, Call.operands]) (by rw [HS.out]; decide)
                clear hl
                go_simp
              -- slot 150
              refine wpFacts_lit (.agg #[.int .i64 a.l[j].t, .slice xA a.l[j].n.length xc, .slice yA a.l[j].s.length yc, .slice zA a.l[j].l.length zc]) rfl ?_ ?_
              · intro aq wq hw hl
                have e149 : aq.tmps[149]?.getD undef = .pointer (some ⟨q, o + j * 4, none⟩) := hl 149 (by first | (simp [Op.operands]; done) | simp [Op.operands, Call.operands]) (by rw [HS.out]; decide)
                obtain ⟨c0, c1, c2, c3⟩ := HC4J.out.gb (gb_trans HGW.out hw (.inl rfl))
                clear hl
                go_simp
              -- slot 151
              refine wpFacts_lit (.pointer (some ⟨w.heap.size + 1, 3, none⟩)) rfl ?_ ?_
              · intro aq wq hw hl
                have e3 : aq.tmps[3]?.getD undef = .pointer (some ⟨w.heap.size + 1, 0, none⟩) := (hl 3 (by first | (simp [Op.operands]; done) | simp [Op.operands, Call.operands]) (by rw [HS.out]; decide)).trans A3.out
                clear hl
                go_simp
              -- slot 152
              refine wpFacts_lit (.slice (some ⟨q', o', none⟩) b.l.length lc') rfl ?_ ?_
              · intro aq wq hw hl
                have e151 : aq.tmps[151]?.getD undef = .pointer (some ⟨w.heap.size + 1, 3, none⟩) := hl 151 (by first | (simp [Op.operands]; done) | simp [Op.operands, Call.operands]) (by rw [HS.out]; decide)
                have c3 := (HCBR.out.gb (gb_trans HGW.out hw (.inl rfl))).c3
                clear hl
                go_simp
              -- slot 153
              refine wpFacts_lit (.int .i64 (j : Int)) rfl ?_ ?_
              · intro aq wq hw hl
                have e7 : aq.tmps[7]?.getD undef = .int .i64 (j : Int) := (hl 7 (by first | (simp [Op.operands]; done) | simp [Op.operands, Call.operands]) (by rw [HS.out]; decide)).trans A7.out
                clear hl
                go_simp
              -- slot 154
              refine wpFacts_lit (.pointer (some ⟨q', o' + j * 4, none⟩)) rfl ?_ ?_
              · intro aq wq hw hl
                have e152 : aq.tmps[152]?.getD undef = .slice (some ⟨q', o', none⟩) b.l.length lc' := hl 152 (by first | (simp [Op.operands]; done) | simp [Op.operands, Call.operands]) (by rw [HS.out]; decide)
                have e153 : aq.tmps[153]?.getD undef = .int .i64 (j : Int) := hl 153 (by first | (simp [Op.operands]; done) | simp [Op.operands, Call.operands]) (by rw [HS.out]; decide)
                clear hl
                go_simp
              -- slot 155
              refine wpFacts_lit (.agg #[.int .i64 b.l[j].t, .slice xA' b.l[j].n.length xc', .slice yA' b.l[j].s.length yc', .slice zA' b.l[j].l.length zc']) rfl ?_ ?_
              · intro aq wq hw hl
                have e154 : aq.tmps[154]?.getD undef = .pointer (some ⟨q', o' + j * 4, none⟩) := hl 154 (by first | (simp [Op.operands]; done) | simp [Op.operands, Call.operands]) (by rw [HS.out]; decide)
                obtain ⟨c0, c1, c2, c3⟩ := HC4K.out.gb (gb_trans HGW.out hw (.inl rfl))
                clear hl
                go_simp
              -- slot 156
              refine wpFacts_step (fun vq _ => vq = .int .i64 y) rfl (Lit.up _) ?_ ?_
              · intro aq wq hw hl
                have e150 : aq.tmps[150]?.getD undef = .agg #[.int .i64 a.l[j].t, .slice xA a.l[j].n.length xc, .slice yA a.l[j].s.length yc, .slice zA a.l[j].l.length zc] := hl 150 (by first | (simp [Op.operands]; done) | simp [Op.operands, Call.operands]) (by rw [HS.out]; decide)
                have e155 : aq.tmps[155]?.getD undef = .agg #[.int .i64 b.l[j].t, .slice xA' b.l[j].n.length xc', .slice yA' b.l[j].s.length yc', .slice zA' b.l[j].l.length zc'] := hl 155 (by first | (simp [Op.operands]; done) | simp [Op.operands, Call.operands]) (by rw [HS.out]; decide)
                clear hl
                go_simp
                exact gUpon_lit (HREC.out wq (gb_trans HGW.out hw (.inl rfl)))
              refine HL.out _ (fun a' w9 hc => ?_)
              have e156 : a'.eval (.tmp 156) = .int .i64 y := hc.fact 156 (by rw [HS.out]; decide)
              have hgw9 := gb_trans HGW.out hc.grown (.inl rfl)
              have hfr := hc.frame [146, 147, 148, 149, 150, 151, 152, 153, 154, 155, 156, 8] (by rw [HO.out]; kernel_rfl)
              rw [hfr]
              clear hfr hc
              rw [HA.out]
              clear HA HO HL HW HS HGW A2 A3 A7
              clear A O W L
              simp only [List.drop_succ_cons, List.drop_zero, List.foldl_cons, List.foldl_nil, Act.put, List.setIfInBounds_toArray, List.set_cons_succ, List.set_cons_zero]
              rw [e156]
              generalize a'.eval (.tmp 146) = x146
              generalize a'.eval (.tmp 147) = x147
              generalize a'.eval (.tmp 148) = x148
              generalize a'.eval (.tmp 149) = x149
              generalize a'.eval (.tmp 150) = x150
              generalize a'.eval (.tmp 151) = x151
              generalize a'.eval (.tmp 152) = x152
              generalize a'.eval (.tmp 153) = x153
              generalize a'.eval (.tmp 154) = x154
              generalize a'.eval (.tmp 155) = x155
              generalize a'.eval (.tmp 8) = x8
              clear e156
              clear a'
              have HG9 := hide (gb_trans HGRl.out hgw9 (.inl rfl))
              clear hgw9 HREC
              by_cases hy : y = 0
              · have hy1 : (y != 0) = false := int_bne_t hy
                have HT := hide (HEQ.out hy)
                clear hy HZJ HEQ
                go_wp2_with fail
                go_roundw
                case rel => exact ⟨j + 1, by go_num, by omega, by omega, HT, HG9.out⟩
                case measure => simp [intOf]; omega
              · have hy1 : (y != 0) = true := int_bne_f hy
                have HT := hide (HZJ.out hy)
                clear hy HZJ HEQ
                go_wp2_with fail
                go_ret
                exact ⟨ret_i HT.out.symm, gb_trans HGA3.out HG9.out (.inl rfl)⟩
            have hlt1 : (j : Int) < (a.l.length : Int) := by omega
            have hlt2 : ¬ (j : Int) < (b.l.length : Int) := by omega
            have HK := lexC_long V0 HE.out (by omega) (by omega)
            have HZe := hide (show cmpV a b = 1 by rw [HD.out, thenC_eq HKn.out, thenC_eq HKs.out, HK])
            clear HK
            clear hin hgr
            go_wp2_with (go_at_call 64; refine (HSG.out _ _ _).mono ?_; rintro e wq ⟨rfl, rfl⟩)
            go_ret
            exact ⟨ret_i (by first | exact HZe.out.symm | (rw [HZe.out]; rfl) | (rw [HZe.out]; simp)), gb_trans HGA3.out HGRl.out (.inl rfl)⟩
    go_enter Try.func30, Try.ntmps30
    go_wp2_with fail
    rw [← HWE.out]
    refine wp_region_facts' 4 (by kernel_rfl) (by kernel_rfl) ?_
    intro A O W L HA HO HW HL
    simp only [List.take_succ_cons, List.take_zero]
    have HS := hide (show A.tmps.size = 175 by rw [HA.out]; rfl)
    have HGW := hide (show wa.grownBy W none by rw [HW.out]; exact gb_drew (gb_refl wa none))
    have A2 := hide (show A.eval (.tmp 2) = .pointer (some ⟨w.heap.size, 0, none⟩) by rw [HA.out]; rfl)
    have A3 := hide (show A.eval (.tmp 3) = .pointer (some ⟨w.heap.size + 1, 0, none⟩) by rw [HA.out]; rfl)
    -- slot 9
    refine wpFacts_lit (.agg #[.int .i64 a.t, .slice nA a.n.length nc, .slice sA a.s.length sc, .slice lA a.l.length lc]) rfl ?_ ?_
    · intro aq wq hw hl
      have e2 : aq.tmps[2]?.getD undef = .pointer (some ⟨w.heap.size, 0, none⟩) := (hl 2 (by first | (simp [Op.operands]; done) | simp [Op.operands, Call.operands]) (by rw [HS.out]; decide)).trans A2.out
      obtain ⟨c0, c1, c2, c3⟩ := HCA.out.gb (gb_trans HGW.out hw (.inl rfl))
      clear hl
      go_simp
    -- slot 10
    refine wpFacts_step (fun vq _ => vq = .int .i64 r1) rfl (Lit.up _) ?_ ?_
    · intro aq wq hw hl
      have e9 : aq.tmps[9]?.getD undef = .agg #[.int .i64 a.t, .slice nA a.n.length nc, .slice sA a.s.length sc, .slice lA a.l.length lc] := hl 9 (by first | (simp [Op.operands]; done) | simp [Op.operands, Call.operands]) (by rw [HS.out]; decide)
      clear hl
      go_simp
      exact gUpon_lit (HRA.out _)
    -- slot 11
    refine wpFacts_lit (.agg #[.int .i64 b.t, .slice nA' b.n.length nc', .slice sA' b.s.length sc', .slice lA' b.l.length lc']) rfl ?_ ?_
    · intro aq wq hw hl
      have e3 : aq.tmps[3]?.getD undef = .pointer (some ⟨w.heap.size + 1, 0, none⟩) := (hl 3 (by first | (simp [Op.operands]; done) | simp [Op.operands, Call.operands]) (by rw [HS.out]; decide)).trans A3.out
      obtain ⟨c0, c1, c2, c3⟩ := HCB.out.gb (gb_trans HGW.out hw (.inl rfl))
      clear hl
      go_simp
    -- slot 12
    refine wpFacts_step (fun vq _ => vq = .int .i64 r2) rfl (Lit.up _) ?_ ?_
    · intro aq wq hw hl
      have e11 : aq.tmps[11]?.getD undef = .agg #[.int .i64 b.t, .slice nA' b.n.length nc', .slice sA' b.s.length sc', .slice lA' b.l.length lc'] := hl 11 (by first | (simp [Op.operands]; done) | simp [Op.operands, Call.operands]) (by rw [HS.out]; decide)
      clear hl
      go_simp
      exact gUpon_lit (HRB.out _)
    refine HL.out _ (fun a' w1 hc => ?_)
    have e10 : a'.eval (.tmp 10) = .int .i64 r1 := hc.fact 10 (by rw [HS.out]; decide)
    have e12 : a'.eval (.tmp 12) = .int .i64 r2 := hc.fact 12 (by rw [HS.out]; decide)
    have hgw1 := gb_trans HGW.out hc.grown (.inl rfl)
    have hfr := hc.frame [9, 10, 11, 12, 13] (by rw [HO.out]; kernel_rfl)
    rw [hfr]
    clear hfr hc
    rw [HA.out]
    clear HA HO HL HW HS HGW A2 A3
    clear A O W L
    simp only [List.drop_succ_cons, List.drop_zero, List.foldl_cons, List.foldl_nil, Act.put, List.setIfInBounds_toArray, List.set_cons_succ, List.set_cons_zero]
    rw [e10, e12]
    generalize a'.eval (.tmp 9) = x9
    generalize a'.eval (.tmp 11) = x11
    generalize a'.eval (.tmp 13) = x13
    clear e10 e12
    clear a'
    have HCA1 := hide (HCA.out.gb hgw1)
    have HCB1 := hide (HCB.out.gb hgw1)
    have HG1 := hide hgw1
    clear hgw1
    go_wp2_with fail
    refine wp_region_facts' 4 (by kernel_rfl) (by kernel_rfl) ?_
    intro A O W L HA HO HW HL
    simp only [List.take_succ_cons, List.take_zero]
    have HS := hide (show A.tmps.size = 175 by rw [HA.out]; rfl)
    have HGW := hide (show w1.grownBy W none by rw [HW.out]; exact gb_drew (gb_refl w1 none))
    have A2 := hide (show A.eval (.tmp 2) = .pointer (some ⟨w.heap.size, 0, none⟩) by rw [HA.out]; rfl)
    have A3 := hide (show A.eval (.tmp 3) = .pointer (some ⟨w.heap.size + 1, 0, none⟩) by rw [HA.out]; rfl)
    -- slot 20
    refine wpFacts_lit (.agg #[.int .i64 a.t, .slice nA a.n.length nc, .slice sA a.s.length sc, .slice lA a.l.length lc]) rfl ?_ ?_
    · intro aq wq hw hl
      have e2 : aq.tmps[2]?.getD undef = .pointer (some ⟨w.heap.size, 0, none⟩) := (hl 2 (by first | (simp [Op.operands]; done) | simp [Op.operands, Call.operands]) (by rw [HS.out]; decide)).trans A2.out
      obtain ⟨c0, c1, c2, c3⟩ := HCA1.out.gb (gb_trans HGW.out hw (.inl rfl))
      clear hl
      go_simp
    -- slot 21
    refine wpFacts_step (fun vq _ => vq = .bool pa) rfl (Lit.up _) ?_ ?_
    · intro aq wq hw hl
      have e20 : aq.tmps[20]?.getD undef = .agg #[.int .i64 a.t, .slice nA a.n.length nc, .slice sA a.s.length sc, .slice lA a.l.length lc] := hl 20 (by first | (simp [Op.operands]; done) | simp [Op.operands, Call.operands]) (by rw [HS.out]; decide)
      clear hl
      go_simp
      exact gUpon_lit (HTA.out _)
    -- slot 22
    refine wpFacts_lit (.agg #[.int .i64 b.t, .slice nA' b.n.length nc', .slice sA' b.s.length sc', .slice lA' b.l.length lc']) rfl ?_ ?_
    · intro aq wq hw hl
      have e3 : aq.tmps[3]?.getD undef = .pointer (some ⟨w.heap.size + 1, 0, none⟩) := (hl 3 (by first | (simp [Op.operands]; done) | simp [Op.operands, Call.operands]) (by rw [HS.out]; decide)).trans A3.out
      obtain ⟨c0, c1, c2, c3⟩ := HCB1.out.gb (gb_trans HGW.out hw (.inl rfl))
      clear hl
      go_simp
    -- slot 23
    refine wpFacts_step (fun vq _ => vq = .bool pa) rfl (Lit.up _) ?_ ?_
    · intro aq wq hw hl
      have e22 : aq.tmps[22]?.getD undef = .agg #[.int .i64 b.t, .slice nA' b.n.length nc', .slice sA' b.s.length sc', .slice lA' b.l.length lc'] := hl 22 (by first | (simp [Op.operands]; done) | simp [Op.operands, Call.operands]) (by rw [HS.out]; decide)
      clear hl
      go_simp
      exact gUpon_lit (HTB.out _)
    refine HL.out _ (fun a' w3 hc => ?_)
    have e21 : a'.eval (.tmp 21) = .bool pa := hc.fact 21 (by rw [HS.out]; decide)
    have e23 : a'.eval (.tmp 23) = .bool pa := hc.fact 23 (by rw [HS.out]; decide)
    have hgw3 := gb_trans HGW.out hc.grown (.inl rfl)
    have hfr := hc.frame [20, 21, 22, 23, 24] (by rw [HO.out]; kernel_rfl)
    rw [hfr]
    clear hfr hc
    rw [HA.out]
    clear HA HO HL HW HS HGW A2 A3
    clear A O W L
    simp only [List.drop_succ_cons, List.drop_zero, List.foldl_cons, List.foldl_nil, Act.put, List.setIfInBounds_toArray, List.set_cons_succ, List.set_cons_zero]
    rw [e21, e23]
    generalize a'.eval (.tmp 20) = x20
    generalize a'.eval (.tmp 22) = x22
    generalize a'.eval (.tmp 24) = x24
    clear e21 e23
    clear a'
    have HCA3 := hide (HCA1.out.gb hgw3)
    have HCB3 := hide (HCB1.out.gb hgw3)
    have HG3 := hide (gb_trans HG1.out hgw3 (.inl rfl))
    have HGA3 := hide (gb_trans HG.out HG3.out (.inl rfl))
    have HVA := hide ((HVA.out.gb HG3.out (Nat.le_refl _)).up HG3.out.size)
    have HVB := hide ((HVB.out.gb HG3.out (Nat.le_refl _)).up HG3.out.size)
    clear hgw3
    go_wp2_with fail
    go_loopw [5] (fun i wr => ∃ j : Nat, i = .int .i64 (j : Int) ∧ j ≤ a.n.length ∧ j ≤ b.n.length ∧ Hid (a.n.take j = b.n.take j) ∧ w3.grownBy wr none) (fun i _ => a.n.length - (intOf i).toNat)
    case atStart => exact ⟨0, rfl, by omega, by omega, hide rfl, gb_refl w3 none⟩
    case round =>
      obtain ⟨j, rfl, hj, hj2, HE, hgr⟩ := hrel
      obtain ⟨q0, q1, q2, q3⟩ := HCA3.out.gb hgr
      obtain ⟨k0, k1, k2, k3⟩ := HCB3.out.gb hgr
      have HGRn := hide hgr
      by_cases hin : j < a.n.length ∧ j < b.n.length
      · have hlt := hin.1
        have hltm := hin.2
        have hlt1 : (j : Int) < (a.n.length : Int) := by omega
        have hlt2 : (j : Int) < (b.n.length : Int) := by omega
        obtain ⟨ad, rfl, _, ca⟩ := ((HVA.out.gb hgr (Nat.le_refl _)).n).i64 hlt
        obtain ⟨ad', rfl, _, ca'⟩ := ((HVB.out.gb hgr (Nat.le_refl _)).n).i64 hltm
        by_cases hx : a.n[j] = b.n[j]
        · have hx1 : (a.n[j] != b.n[j]) = false := int_bne_t hx
          have HT := hide (take_eq_step HE.out hlt hltm hx)
          clear hx hin hgr
          go_wp2_with fail
          go_quiet (fail)
          go_wp2_with fail
          go_roundw
          case rel => exact ⟨j + 1, by go_num, by omega, by omega, HT, gb_drewN HGRn.out _⟩
          case measure => simp [intOf]; omega
        · have hx1 : (a.n[j] != b.n[j]) = true := int_bne_f hx
          have HZ := hide (HZn.out j hlt hltm HE.out hx)
          clear hx hin
          go_wp2_with fail
          go_quiet (fail)
          go_wp2_with fail
          obtain ⟨w9, hw9⟩ : ∃ w9, w9 = wr.drewN nq := ⟨_, rfl⟩
          have HW9 := hide (show wr.grownBy w9 none by rw [hw9]; exact gb_drewN (gb_refl wr none) nq)
          rw [← hw9]
          have q0 := cell_gb q0 HW9.out
          have q1 := cell_gb q1 HW9.out
          have q2 := cell_gb q2 HW9.out
          have q3 := cell_gb q3 HW9.out
          have k0 := cell_gb k0 HW9.out
          have k1 := cell_gb k1 HW9.out
          have k2 := cell_gb k2 HW9.out
          have k3 := cell_gb k3 HW9.out
          have ca := cell_gb ca HW9.out
          have ca' := cell_gb ca' HW9.out
          have HGR9 := hide (gb_trans HGRn.out HW9.out (.inl rfl))
          clear hw9 hgr
          go_quiet ((go_at_call 64; with_reducible exact quiet_l (HSG.out _ _ _)))
          go_wp2_with fail
          all_goals
            go_ret
            exact ⟨ret_i (by rw [HZ.out]; first | (rw [if_pos h]; done) | (rw [if_neg h]; simp; done) | simp), gb_trans HGA3.out (gb_drewN HGR9.out _) (.inl rfl)⟩
      have hje : j = a.n.length := by omega
      have HKn := hide (show lexC cmpI a.n b.n = 0 from lexC_end N0 HE.out (by omega) (by omega))
      have hlt1 : ¬ (j : Int) < (a.n.length : Int) := by omega
      clear hin hgr
      go_wp2_with fail
      go_loopw [6] (fun i wr => ∃ j : Nat, i = .int .i64 (j : Int) ∧ j ≤ a.s.length ∧ j ≤ b.s.length ∧ Hid (a.s.take j = b.s.take j) ∧ w3.grownBy wr none) (fun i _ => a.s.length - (intOf i).toNat)
      case atStart => exact ⟨0, rfl, by omega, by omega, hide rfl, HGRn.out⟩
      case round =>
        obtain ⟨j, rfl, hj, hj2, HE, hgr⟩ := hrel
        obtain ⟨q0, q1, q2, q3⟩ := HCA3.out.gb hgr
        obtain ⟨k0, k1, k2, k3⟩ := HCB3.out.gb hgr
        have HGRs := hide hgr
        by_cases hin : j < a.s.length ∧ j < b.s.length
        · have hlt := hin.1
          have hltm := hin.2
          have hlt1 : (j : Int) < (a.s.length : Int) := by omega
          have hlt2 : (j : Int) < (b.s.length : Int) := by omega
          obtain ⟨ad, rfl, _, ca⟩ := ((HVA.out.gb hgr (Nat.le_refl _)).s).str hlt
          obtain ⟨ad', rfl, _, ca'⟩ := ((HVB.out.gb hgr (Nat.le_refl _)).s).str hltm
          by_cases hx : a.s[j] = b.s[j]
          · have hx1 : (a.s[j].toList == b.s[j].toList) = true := ba_eq hx
            have HT := hide (take_eq_step HE.out hlt hltm hx)
            clear hx hin hgr
            go_wp2_with fail
            go_quiet (fail)
            go_wp2_with fail
            go_roundw
            case rel => exact ⟨j + 1, by go_num, by omega, by omega, HT, gb_drewN HGRs.out _⟩
            case measure => simp [intOf]; omega
          · have hx1 : (a.s[j].toList == b.s[j].toList) = false := ba_ne hx
            have HZ := hide (HZs.out j hlt hltm HE.out hx)
            clear hx hin
            go_wp2_with fail
            go_quiet (fail)
            go_wp2_with fail
            obtain ⟨w9, hw9⟩ : ∃ w9, w9 = wr.drewN nq := ⟨_, rfl⟩
            have HW9 := hide (show wr.grownBy w9 none by rw [hw9]; exact gb_drewN (gb_refl wr none) nq)
            rw [← hw9]
            have q0 := cell_gb q0 HW9.out
            have q1 := cell_gb q1 HW9.out
            have q2 := cell_gb q2 HW9.out
            have q3 := cell_gb q3 HW9.out
            have k0 := cell_gb k0 HW9.out
            have k1 := cell_gb k1 HW9.out
            have k2 := cell_gb k2 HW9.out
            have k3 := cell_gb k3 HW9.out
            have ca := cell_gb ca HW9.out
            have ca' := cell_gb ca' HW9.out
            have HGR9 := hide (gb_trans HGRs.out HW9.out (.inl rfl))
            clear hw9 hgr
            go_quiet ((go_at_call 64; with_reducible exact quiet_l (HSG.out _ _ _)))
            go_wp2_with fail
            all_goals
              go_ret
              exact ⟨ret_i (by rw [HZ.out]; first | (rw [if_pos h]; done) | (rw [if_neg h]; simp; done) | simp), gb_trans HGA3.out (gb_drewN HGR9.out _) (.inl rfl)⟩
        have hje : j = a.s.length := by omega
        have HKs := hide (show lexC cmpS a.s b.s = 0 from lexC_end S0 HE.out (by omega) (by omega))
        have hlt1 : ¬ (j : Int) < (a.s.length : Int) := by omega
        clear hin hgr
        go_wp2_with fail
        go_loopw [7, 8] (fun i _ wr => ∃ j : Nat, i = .int .i64 (j : Int) ∧ j ≤ a.l.length ∧ j ≤ b.l.length ∧ Hid (a.l.take j = b.l.take j) ∧ w3.grownBy wr none) (fun i _ _ => a.l.length - (intOf i).toNat)
        case atStart => exact ⟨0, rfl, by omega, by omega, hide rfl, HGRs.out⟩
        case round =>
          obtain ⟨j, rfl, hj, hj2, HE, hgr⟩ := hrel
          obtain ⟨q0, q1, q2, q3⟩ := HCA3.out.gb hgr
          obtain ⟨k0, k1, k2, k3⟩ := HCB3.out.gb hgr
          have HCAR := hide (HCA3.out.gb hgr)
          have HCBR := hide (HCB3.out.gb hgr)
          have HGRl := hide hgr
          by_cases hin : j < a.l.length ∧ j < b.l.length
          · have hlt := hin.1
            have hltm := hin.2
            have hlt1 : (j : Int) < (a.l.length : Int) := by omega
            have hlt2 : (j : Int) < (b.l.length : Int) := by omega
            obtain ⟨q, o, xA, xc, yA, yc, zA, zc, rfl, hqB, hc4, hvb⟩ := HVA.out.l.at_ hlt
            obtain ⟨q', o', xA', xc', yA', yc', zA', zc', rfl, hqB', hc4', hvb'⟩ := HVB.out.l.at_ hltm
            have HC4J := hide (hc4.gb hgr)
            have HC4K := hide (hc4'.gb hgr)
            have HREC := hide (fun wq (k : wr.grownBy wq none) => IH.out a.l[j] b.l[j] wq w3.heap.size xA xc yA yc zA zc xA' xc' yA' yc' zA' zc' (HOA.out _ (List.getElem_mem hlt)) (HOB.out _ (List.getElem_mem hltm)) (HPA.out _ (List.getElem_mem hlt)) (HPB.out _ (List.getElem_mem hltm)) (Nat.le_trans hgr.size k.size) (hvb.gb (gb_trans hgr k (.inl rfl)) (Nat.le_refl _)) (hvb'.gb (gb_trans hgr k (.inl rfl)) (Nat.le_refl _)))
            have HZJ : Hid (cmpV a.l[j] b.l[j] ≠ 0 → cmpV a b = cmpV a.l[j] b.l[j]) := hide (fun hx => by rw [HD.out, thenC_eq HKn.out, thenC_eq HKs.out, lexC_ne V0 HE.out hlt hltm hx])
            have HEQ := hide (fun (hx : cmpV a.l[j] b.l[j] = 0) => take_eq_step HE.out hlt hltm ((cmpV_all.same _ _).1 hx))
            clear hc4 hc4' hvb hvb' hgr hin
            generalize cmpV a.l[j] b.l[j] = y at HREC HZJ HEQ
            go_wp2_with fail
            refine wp_region_facts' 11 (by kernel_rfl) (by kernel_rfl) ?_
            intro A O W L HA HO HW HL
            simp only [List.take_succ_cons, List.take_zero]
            have HS := hide (show A.tmps.size = 175 by rw [HA.out]; rfl)
            have HGW := hide (show wr.grownBy W none by rw [HW.out]; exact gb_drew (gb_refl wr none))
            have A2 := hide (show A.eval (.tmp 2) = .pointer (some ⟨w.heap.size, 0, none⟩) by rw [HA.out]; rfl)
            have A3 := hide (show A.eval (.tmp 3) = .pointer (some ⟨w.heap.size + 1, 0, none⟩) by rw [HA.out]; rfl)
            have A7 := hide (show A.eval (.tmp 7) = .int .i64 (j : Int) by rw [HA.out]; rfl)
            -- slot 146
            refine wpFacts_lit (.pointer (some ⟨w.heap.size, 3, none⟩)) rfl ?_ ?_
            · intro aq wq hw hl
              have e2 : aq.tmps[2]?.getD undef = .pointer (some ⟨w.heap.size, 0, none⟩) := (hl 2 (by first | (simp [Op.operands]; done) | simp [Op.operands, Call.operands]) (by rw [HS.out]; decide)).trans A2.out
              clear hl
              go_simp
            -- slot 147
            refine wpFacts_lit (.slice (some ⟨q, o, none⟩) a.l.length lc) rfl ?_ ?_
            · intro aq wq hw hl
              have e146 : aq.tmps[146]?.getD undef = .pointer (some ⟨w.heap.size, 3, none⟩) := hl 146 (by first | (simp [Op.operands]; done) | simp [Op.operands, Call.operands]) (by rw [HS.out]; decide)
              have c3 := (HCAR.out.gb (gb_trans HGW.out hw (.inl rfl))).c3
              clear hl
              go_simp
            -- slot 148
            refine wpFacts_lit (.int .i64 (j : Int)) rfl ?_ ?_
            · intro aq wq hw hl
              have e7 : aq.tmps[7]?.getD undef = .int .i64 (j : Int) := (hl 7 (by first | (simp [Op.operands]; done) | simp [Op.operands, Call.operands]) (by rw [HS.out]; decide)).trans A7.out
              clear hl
              go_simp
            -- slot 149
            refine wpFacts_lit (.pointer (some ⟨q, o + j * 4, none⟩)) rfl ?_ ?_
            · intro aq wq hw hl
              have e147 : aq.tmps[147]?.getD undef = .slice (some ⟨q, o, none⟩) a.l.length lc := hl 147 (by first | (simp [Op.operands]; done) | simp [Op.operands, Call.operands]) (by rw [HS.out]; decide)
              have e148 : aq.tmps[148]?.getD undef = .int .i64 (j : Int) := hl 148 (by first | (simp [Op.operands]; done) | simp [Op.operands, Call.operands]) (by rw [HS.out]; decide)
              clear hl
              go_simp
            -- slot 150
            refine wpFacts_lit (.agg #[.int .i64 a.l[j].t, .slice xA a.l[j].n.length xc, .slice yA a.l[j].s.length yc, .slice zA a.l[j].l.length zc]) rfl ?_ ?_
            · intro aq wq hw hl
              have e149 : aq.tmps[149]?.getD undef = .pointer (some ⟨q, o + j * 4, none⟩) := hl 149 (by first | (simp [Op.operands]; done) | simp [Op.operands, Call.operands]) (by rw [HS.out]; decide)
              obtain ⟨c0, c1, c2, c3⟩ := HC4J.out.gb (gb_trans HGW.out hw (.inl rfl))
              clear hl
              go_simp
            -- slot 151
            refine wpFacts_lit (.pointer (some ⟨w.heap.size + 1, 3, none⟩)) rfl ?_ ?_
            · intro aq wq hw hl
              have e3 : aq.tmps[3]?.getD undef = .pointer (some ⟨w.heap.size + 1, 0, none⟩) := (hl 3 (by first | (simp [Op.operands]; done) | simp [Op.operands, Call.operands]) (by rw [HS.out]; decide)).trans A3.out
              clear hl
              go_simp
            -- slot 152
            refine wpFacts_lit (.slice (some ⟨q', o', none⟩) b.l.length lc') rfl ?_ ?_
            · intro aq wq hw hl
              have e151 : aq.tmps[151]?.getD undef = .pointer (some ⟨w.heap.size + 1, 3, none⟩) := hl 151 (by first | (simp [Op.operands]; done) | simp [Op.operands, Call.operands]) (by rw [HS.out]; decide)
              have c3 := (HCBR.out.gb (gb_trans HGW.out hw (.inl rfl))).c3
              clear hl
              go_simp
            -- slot 153
            refine wpFacts_lit (.int .i64 (j : Int)) rfl ?_ ?_
            · intro aq wq hw hl
              have e7 : aq.tmps[7]?.getD undef = .int .i64 (j : Int) := (hl 7 (by first | (simp [Op.operands]; done) | simp [Op.operands, Call.operands]) (by rw [HS.out]; decide)).trans A7.out
              clear hl
              go_simp
            -- slot 154
            refine wpFacts_lit (.pointer (some ⟨q', o' + j * 4, none⟩)) rfl ?_ ?_
            · intro aq wq hw hl
              have e152 : aq.tmps[152]?.getD undef = .slice (some ⟨q', o', none⟩) b.l.length lc' := hl 152 (by first | (simp [Op.operands]; done) | simp [Op.operands, Call.operands]) (by rw [HS.out]; decide)
              have e153 : aq.tmps[153]?.getD undef = .int .i64 (j : Int) := hl 153 (by first | (simp [Op.operands]; done) | simp [Op.operands, Call.operands]) (by rw [HS.out]; decide)
              clear hl
              go_simp
            -- slot 155
            refine wpFacts_lit (.agg #[.int .i64 b.l[j].t, .slice xA' b.l[j].n.length xc', .slice yA' b.l[j].s.length yc', .slice zA' b.l[j].l.length zc']) rfl ?_ ?_
            · intro aq wq hw hl
              have e154 : aq.tmps[154]?.getD undef = .pointer (some ⟨q', o' + j * 4, none⟩) := hl 154 (by first | (simp [Op.operands]; done) | simp [Op.operands, Call.operands]) (by rw [HS.out]; decide)
              obtain ⟨c0, c1, c2, c3⟩ := HC4K.out.gb (gb_trans HGW.out hw (.inl rfl))
              clear hl
              go_simp
            -- slot 156
            refine wpFacts_step (fun vq _ => vq = .int .i64 y) rfl (Lit.up _) ?_ ?_
            · intro aq wq hw hl
              have e150 : aq.tmps[150]?.getD undef = .agg #[.int .i64 a.l[j].t, .slice xA a.l[j].n.length xc, .slice yA a.l[j].s.length yc, .slice zA a.l[j].l.length zc] := hl 150 (by first | (simp [Op.operands]; done) | simp [Op.operands, Call.operands]) (by rw [HS.out]; decide)
              have e155 : aq.tmps[155]?.getD undef = .agg #[.int .i64 b.l[j].t, .slice xA' b.l[j].n.length xc', .slice yA' b.l[j].s.length yc', .slice zA' b.l[j].l.length zc'] := hl 155 (by first | (simp [Op.operands]; done) | simp [Op.operands, Call.operands]) (by rw [HS.out]; decide)
              clear hl
              go_simp
              exact gUpon_lit (HREC.out wq (gb_trans HGW.out hw (.inl rfl)))
            refine HL.out _ (fun a' w9 hc => ?_)
            have e156 : a'.eval (.tmp 156) = .int .i64 y := hc.fact 156 (by rw [HS.out]; decide)
            have hgw9 := gb_trans HGW.out hc.grown (.inl rfl)
            have hfr := hc.frame [146, 147, 148, 149, 150, 151, 152, 153, 154, 155, 156, 8] (by rw [HO.out]; kernel_rfl)
            rw [hfr]
            clear hfr hc
            rw [HA.out]
            clear HA HO HL HW HS HGW A2 A3 A7
            clear A O W L
            simp only [List.drop_succ_cons, List.drop_zero, List.foldl_cons, List.foldl_nil, Act.put, List.setIfInBounds_toArray, List.set_cons_succ, List.set_cons_zero]
            rw [e156]
            generalize a'.eval (.tmp 146) = x146
            generalize a'.eval (.tmp 147) = x147
            generalize a'.eval (.tmp 148) = x148
            generalize a'.eval (.tmp 149) = x149
            generalize a'.eval (.tmp 150) = x150
            generalize a'.eval (.tmp 151) = x151
            generalize a'.eval (.tmp 152) = x152
            generalize a'.eval (.tmp 153) = x153
            generalize a'.eval (.tmp 154) = x154
            generalize a'.eval (.tmp 155) = x155
            generalize a'.eval (.tmp 8) = x8
            clear e156
            clear a'
            have HG9 := hide (gb_trans HGRl.out hgw9 (.inl rfl))
            clear hgw9 HREC
            by_cases hy : y = 0
            · have hy1 : (y != 0) = false := int_bne_t hy
              have HT := hide (HEQ.out hy)
              clear hy HZJ HEQ
              go_wp2_with fail
              go_roundw
              case rel => exact ⟨j + 1, by go_num, by omega, by omega, HT, HG9.out⟩
              case measure => simp [intOf]; omega
            · have hy1 : (y != 0) = true := int_bne_f hy
              have HT := hide (HZJ.out hy)
              clear hy HZJ HEQ
              go_wp2_with fail
              go_ret
              exact ⟨ret_i HT.out.symm, gb_trans HGA3.out HG9.out (.inl rfl)⟩
          have hlt1 : ¬ (j : Int) < (a.l.length : Int) := by omega
          have HK := lexC_end V0 HE.out (by omega) (by omega)
          have HZe := hide (show cmpV a b = 0 by rw [HD.out, thenC_eq HKn.out, thenC_eq HKs.out, HK])
          clear HK
          clear hin hgr
          go_wp2_with (go_at_call 64; refine (HSG.out _ _ _).mono ?_; rintro e wq ⟨rfl, rfl⟩)
          go_ret
          exact ⟨ret_i (by first | exact HZe.out.symm | (rw [HZe.out]; rfl) | (rw [HZe.out]; simp)), gb_trans HGA3.out HGRl.out (.inl rfl)⟩
theorem rComp_any (a b : Vl) (w : World) (B : Nat) (nA : Option Addr) (nc : Nat) (sA : Option Addr) (sc : Nat) (lA : Option Addr) (lc : Nat) (nA' : Option Addr) (nc' : Nat) (sA' : Option Addr) (sc' : Nat) (lA' : Option Addr) (lc' : Nat) (oa : okD 32 a) (ob : okD 32 b) (ht : a.tot ≤ 1100000) (ht' : b.tot ≤ 1100000) (hB : B ≤ w.heap.size) (h : VB w B a nA nc sA sc lA lc) (h' : VB w B b nA' nc' sA' sc' lA' lc') :
    Calls Try.prog 30 #[.agg #[.int .i64 a.t, .slice nA a.n.length nc, .slice sA a.s.length sc, .slice lA a.l.length lc], .agg #[.int .i64 b.t, .slice nA' b.n.length nc', .slice sA' b.s.length sc', .slice lA' b.l.length lc']] w fun e w' => e = .returned (.int .i64 (cmpV a b)) ∧ w.grownBy w' none :=
  rComp_d 32 a b w B nA nc sA sc lA lc nA' nc' sA' sc' lA' lc' oa ob ht ht' hB h h'
end Go.Proofs.Ytniliccobkhnlaa
