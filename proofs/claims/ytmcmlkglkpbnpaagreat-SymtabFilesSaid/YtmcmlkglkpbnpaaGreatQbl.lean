/-
  The document's file system: Crash walked.
-/
import Derived.Test.YtmcmlkglkpbnpaaGreatQbi
import Derived.BigQuiet
import Derived.Deep.CutBlock
import Derived.Deep.RegionLaw
import Derived.Deep.DeepCutAuto

namespace Go.Proofs.YtmcmlkglkpbnpaaGreat
open Go.RowKit
attribute [local go_sem ↓] Go.wp_at_zero Go.wp_at_succ

set_option maxHeartbeats 4000000 in
set_option maxRecDepth 100000 in
theorem rCrash_any (g : Nat) (S : RS) (bs : List Nat) (vs : List Value) (vF vD vS vM : Value) (d : Int) (A : Option Addr) (c B : Nat) (l : List Tn) (w : World) (h : RAt w g S bs vs vF vD vS vM) (ok : ROk S) (hkd : ∀ m ∈ S.m, m.kind = 99 ∨ m.kind = 100 ∨ m.kind = 114) (hsm : S.safe.length + S.m.length ≤ 1000000)
    (hr : Rd w B A (tcells l)) (hB : B ≤ w.heap.size) (hl : l.length ≤ 1000000) (good : ∀ x ∈ S.f, GoodR x) (hdis : ∀ i, ROwn g bs vs vF vD vS vM i → B ≤ i) :
    Calls Tryz.prog 9 #[.pointer (some ⟨g, 0, none⟩), .agg #[.int .i64 d, .slice A l.length c]] w fun e w' => e = .returned (.tuple #[]) ∧ RTo w g bs vs vF vD vS vM (crashR S d l) w' := by
  obtain ⟨wa, hwa⟩ : ∃ wa, wa = w.alloc (.cells #[.int .i64 d, .slice A l.length c] 36) := ⟨_, rfl⟩
  have hg : w.grownBy wa none := by rw [hwa]; exact gb_alloc (gb_refl w none) _
  have HW : Hid (wa.heap[w.heap.size]? = some (.cells #[.int .i64 d, .slice A l.length c] 36 (0, 0))) := hide (by rw [hwa]; exact heap_alloc_new w _)
  have ha := h.gb h.lt hg
  obtain ⟨AM, cM, hvM, hcM, hmM⟩ := own_form0 ha.rM
  subst hvM
  unfold maxLen at hmM
  have b2 : wa.cell? ⟨g, 2, none⟩ = some vS := by rw [blk_cell ha.box]; rfl
  have H := hide h
  have HA := hide ha
  have HG := hide hg
  have HWA := hide hwa
  have HK := hide hkd
  have HSM := hide hsm
  have HRT := hide hr
  have HBB := hide hB
  have OK := hide ok
  have GOOD := hide good
  have HDIS := hide hdis
  clear h ha hg hwa hkd hr hB ok good hdis
  go_enter Tryz.func9, Tryz.ntmps9
  go_upto_region 1 with fail
  rw [← HWA.out]
  go_wp2_with fail
  rename_i Q0 K0 aK
  have REST : ∀ (dv : Value) (j : Nat) (wr : World) (u15 u16 u17 u18 u19 u20 u21 u22 u23 u24 u25 u26 u27 u28 u29 u30 u31 u32 u33 u34 u35 u36 u37 u38 : Value), j = crashN S d → wr.ownsRow 0 151 2 dv (crashD S j).length (encE (crashD S j)) → wa.grownBy wr none → K0 { tmps := #[.pointer (some ⟨g, 0, none⟩), .agg #[.int .i64 d, .slice A l.length c], undef, .pointer (some ⟨w.heap.size, 0, none⟩), dv, .int .i64 (j : Int), undef, undef, undef, undef, undef, .pointer (some ⟨g, 0, none⟩), .pointer (some ⟨g, 0, none⟩), .pointer (some ⟨g, 2, none⟩), vS, u15, u16, u17, u18, u19, u20, u21, u22, u23, u24, u25, u26, u27, u28, u29, u30, u31, u32, u33, u34, u35, u36, u37, u38, undef, undef, undef, undef, undef, undef, undef, undef, undef, undef, undef, undef, undef, undef, undef, undef, undef, undef, undef, undef, undef, undef, undef, undef, undef, undef, undef, undef, undef, undef, undef, undef, undef, undef, undef, undef, undef, undef, undef, undef, undef, undef, undef, undef, undef, undef, undef, undef, undef, undef, undef, undef, undef, undef, undef, undef, undef, undef, undef, undef, undef, undef, undef, undef, undef, undef, undef, undef, undef, undef, undef, undef, undef, undef, undef, undef, undef, undef, undef, undef, undef, undef, undef, undef, undef, undef, undef, undef, undef, undef, undef, undef, undef, undef, undef, undef, undef, undef, undef, undef, undef, undef, undef, undef, undef, undef, undef, undef, undef, undef, undef, undef, undef, undef, undef, undef, undef, undef, undef, undef, undef, undef, undef, undef, undef, undef, undef, undef, undef, undef, undef, undef, undef, undef, undef], defers := [] } wr := by
    intro dv j wz u15 u16 u17 u18 u19 u20 u21 u22 u23 u24 u25 u26 u27 u28 u29 u30 u31 u32 u33 u34 u35 u36 u37 u38 hj hrow hgr
    apply aK
    obtain ⟨A0, c0, rfl, _, _⟩ := own_form0 hrow
    obtain ⟨D, hD⟩ : ∃ D, D = crashD S j := ⟨_, rfl⟩
    have hDl : D.length ≤ 1000000 := by rw [hD]; have := crashD_le S j; have := HSM.out; have : j ≤ S.m.length := by rw [hj]; unfold crashN; omega
                                        omega
    rw [← hD] at hrow
    have HDJ : Hid (D = crashD S (crashN S d)) := hide (by rw [hD, hj])
    obtain ⟨wb, hwb⟩ : ∃ wb, wb = wz.alloc (.cells #[] 151) := ⟨_, rfl⟩
    have hgb : wz.grownBy wb none := by rw [hwb]; exact gb_alloc (gb_refl wz none) _
    have hR := HA.out.gb HA.out.lt (gb_trans hgr hgb (.inl rfl))
    have HRW := hide (HA.out.gb HA.out.lt hgr)
    have HO : Hid (wb.ownsRow wz.heap.size 151 2 (.slice (some ⟨wz.heap.size, 0, none⟩) 0 0) 0 (encE [])) := hide (own_none (by rw [hwb]; exact heap_alloc_new wz _) (Nat.le_refl _))
    have HRR : Hid (Rd wb wb.heap.size A0 (encE D)) := hide (rd_own (hrow.kept hgb (by cases (Value.slice A0 D.length c0).ownBlock <;> simp)))
    have HROW0 := hide hrow
    have HLE : Hid (D = [] ++ D) := hide rfl
    have HLL : Hid (D.length ≤ 1000000000) := hide (by omega)
    have HWB := hide hwb
    have HGB := hide hgb
    have HGR := hide hgr
    rw [← hD]
    clear hwb hgb hR hgr hrow hj hD hDl
    go_upto_region 7 with (at_builtin; rw [← HWB.out]; refine wpListE rfl (.tmp 40) (.tmp 41) rfl wz.heap.size 0 D.length D [] D (.slice (some ⟨wz.heap.size, 0, none⟩) 0 0) rfl HO.out rfl rfl wb.heap.size A0 _ rfl HRR.out HLE.out HLL.out HGB.out.size ?_; intro A1 c1 w1 ho1 hg1 hb1; have HO1 := hide ho1; have HG1 := hide (gb_row HGB.out HO.out (Nat.le_refl _) hg1); have HR1 := hide (HRW.out.gb HRW.out.lt HG1.out); have t1 : w1.cell? ⟨g, 1, none⟩ = some vD := (by { rw [blk_cell HR1.out.box]; rfl }); have y1 := blk_frozen HR1.out.box 1; clear ho1 hg1 hb1)
    obtain ⟨w2, hw2⟩ : ∃ w2, w2 = w1.setCell ⟨g, 1, none⟩ (.slice A1 D.length c1) := ⟨_, rfl⟩
    rw [← hw2]
    have hg2 : w1.grownBy w2 (some g) := by rw [hw2]; exact gb_set (gb_refl w1 (some g)) 1 _
    have hT2 : Turned (fun i => i = g) w1 w2 := Turned.of_gb hg2 (fun i e => by injection e with e; exact e.symm)
    have HR2 := hide (HR1.out.rows3 (vD' := .slice A1 D.length c1) D S.safe S.m hT2 (ownsRow_less (HO1.out.kept hg2 (.inr (own_not HO1.out HR1.out.box (by decide)))) (Nat.zero_le _)) (HR1.out.rS.kept hg2 (.inr (own_not HR1.out.rS HR1.out.box (by decide)))) (HR1.out.rM.kept hg2 (.inr (own_not HR1.out.rM HR1.out.box (by decide)))) S.cap S.ops S.left S.off (by rw [hw2]; exact blk_set HR1.out.box 1 _))
    have HROW2 : Hid (w2.ownsRow 0 151 2 (.slice A0 D.length c0) D.length (encE D)) := hide ((HROW0.out.kept HG1.out (by cases (Value.slice A0 D.length c0).ownBlock <;> simp)).kept hg2 (.inr (own_not (HROW0.out.kept HG1.out (by cases (Value.slice A0 D.length c0).ownBlock <;> simp)) HR1.out.box (by decide))))
    have HT2 := hide hT2
    clear hw2 hg2 hT2 t1 y1
    obtain ⟨wc, hwc⟩ : ∃ wc, wc = w2.alloc (.cells #[] 151) := ⟨_, rfl⟩
    have hgc : w2.grownBy wc none := by rw [hwc]; exact gb_alloc (gb_refl w2 none) _
    have HOC : Hid (wc.ownsRow w2.heap.size 151 2 (.slice (some ⟨w2.heap.size, 0, none⟩) 0 0) 0 (encE [])) := hide (own_none (by rw [hwc]; exact heap_alloc_new w2 _) (Nat.le_refl _))
    have HRC : Hid (Rd wc wc.heap.size A0 (encE D)) := hide (rd_own (HROW2.out.kept hgc (by cases (Value.slice A0 D.length c0).ownBlock <;> simp)))
    have HWC := hide hwc
    have HGC := hide hgc
    clear hwc hgc
    go_upto_region 8 with (at_builtin; rw [← HWC.out]; refine wpListE rfl (.tmp 46) (.tmp 47) rfl w2.heap.size 0 D.length D [] D (.slice (some ⟨w2.heap.size, 0, none⟩) 0 0) rfl HOC.out rfl rfl wc.heap.size A0 _ rfl HRC.out HLE.out HLL.out HGC.out.size ?_; intro A3 c3 w3 ho3 hg3 hb3; have HO3 := hide ho3; have HG3 := hide (gb_row HGC.out HOC.out (Nat.le_refl _) hg3); have HR3 := hide (HR2.out.gb HR2.out.lt HG3.out); have t2 : w3.cell? ⟨g, 2, none⟩ = some vS := (by { rw [blk_cell HR3.out.box]; rfl }); have y2 := blk_frozen HR3.out.box 2; clear ho3 hg3 hb3)
    have hb3 := HR3.out.box
    have t3 : (w3.setCell ⟨g, 2, none⟩ (.slice A3 D.length c3)).cell? ⟨g, 3, none⟩ = some (.slice AM S.m.length cM) := by rw [blk_cell (blk_set hb3 2 _)]; rfl
    have y3 := blk_frozen (blk_set hb3 2 (.slice A3 D.length c3)) 3
    obtain ⟨w5, hw5⟩ : ∃ w5, w5 = (w3.setCell ⟨g, 2, none⟩ (.slice A3 D.length c3)).setCell ⟨g, 3, none⟩ (.slice none 0 0) := ⟨_, rfl⟩
    have hg5 : w3.grownBy w5 (some g) := by rw [hw5]; exact gb_set (gb_set (gb_refl w3 (some g)) 2 _) 3 _
    have hT5 : Turned (fun i => i = g) w3 w5 := Turned.of_gb hg5 (fun i e => by injection e with e; exact e.symm)
    have HR5 := hide (HR3.out.rows3 (vD' := .slice A1 D.length c1) (vS' := .slice A3 D.length c3) (vM' := .slice none 0 0) D D [] hT5 (HR3.out.rD.kept hg5 (.inr (own_not HR3.out.rD hb3 (by decide)))) (ownsRow_less (HO3.out.kept hg5 (.inr (own_not HO3.out hb3 (by decide)))) (Nat.zero_le _)) ⟨rfl, .inl ⟨rfl, rfl⟩⟩ S.cap S.ops S.left S.off (by rw [hw5]; exact blk_set (blk_set hb3 2 _) 3 _))
    have HT5 : Hid (Turned (fun i => i = g) w w5) := hide (((((Turned.of_gb (M := fun i => i = g) (gb_trans (gb_trans HG.out HGR.out (.inl rfl)) HG1.out (.inl rfl)) (by simp)).trans HT2.out (fun i _ h => h)).trans (Turned.of_gb (M := fun i => i = g) HG3.out (by simp)) (fun i _ h => h)).trans hT5 (fun i _ h => h)))
    have HND : Hid (∀ i, (Value.slice A1 D.length c1).ownBlock = some i ∨ (Value.slice A3 D.length c3).ownBlock = some i → w.heap.size ≤ i) := hide fun i hi => by
      have k1 := Nat.le_trans HG.out.size HGR.out.size
      rcases hi with hi | hi
      · exact Nat.le_trans k1 (HO1.out.lt i hi).1
      · exact Nat.le_trans (Nat.le_trans k1 (Nat.le_trans HG1.out.size HT2.out.size)) (HO3.out.lt i hi).1
    have HWT : Hid (w5.heap[w.heap.size]? = some (.cells #[.int .i64 d, .slice A l.length c] 36 (0, 0))) := hide (by
      have hne : w.heap.size ≠ g := fun e => by have := blk_lt H.out.box; omega
      have k1 := (HGR.out.block _ (blk_lt HW.out) (by simp)).trans HW.out
      have k2 := (HG1.out.block _ (blk_lt k1) (by simp)).trans k1
      have k3 := (HT2.out.block _ (blk_lt k2) hne).trans k2
      have k4 := (HG3.out.block _ (blk_lt k3) (by simp)).trans k3
      exact (hT5.block _ (blk_lt k4) hne).trans k4)
    clear hb3 hg5 hT5
    go_upto_region 9 with fail
    rw [← hw5]
    clear hw5 t2 y2 t3 y3
    go_wp2_with fail
    go_loopw [6] (fun i wr => ∃ (q : Nat) (vs' : List Value), i = .int .i64 (q : Int) ∧ q ≤ S.f.length ∧ RAt wr g ⟨tearN S l q, D, D, [], S.cap, S.ops, S.left, S.off⟩ bs vs' vF (.slice A1 D.length c1) (.slice A3 D.length c3) (.slice none 0 0) ∧ (∀ i, (∃ v ∈ vs', v.ownBlock = some i) → ∃ v ∈ vs, v.ownBlock = some i) ∧ Turned (ROwn g bs vs vF vD vS (.slice AM S.m.length cM)) w wr ∧ wr.heap[w.heap.size]? = some (.cells #[.int .i64 d, .slice A l.length c] 36 (0, 0))) (fun i _ => S.f.length - (intOf i).toNat)
    case atStart => exact ⟨0, vs, rfl, Nat.zero_le _, by rw [tearN_zero]; exact HR5.out, fun _ h => h, HT5.out.mono fun i _ hi => .inl hi, HWT.out⟩
    case round =>
      obtain ⟨q, vs', rfl, hq, hR, hown, hT, hW⟩ := hrel
      have HRQ := hide hR
      have HOWN := hide hown
      have HTQ := hide hT
      have HWQ := hide hW
      obtain ⟨AF, cF, hvF, hcF, hmF⟩ := own_form0 hR.rF
      have hf0 : wr.cell? ⟨g, 0, none⟩ = some (.slice AF bs.length cF) := by rw [blk_cell hR.box, ← hvF]; rfl
      have hlb : bs.length = S.f.length := by have := hR.lb; rw [tearN_len S l hq] at this; exact this
      clear hR hown hT hW
      by_cases hlt : q < S.f.length
      · have hqb : q < bs.length := by omega
        have hPF : wr.ownsRow 0 104 1 (.slice AF bs.length cF) bs.length (encP bs) := hvF ▸ HRQ.out.rF
        obtain ⟨bF, rfl, r0⟩ := P_elem hPF hqb
        obtain ⟨b, hb⟩ : ∃ b, b = bs[q] := ⟨_, rfl⟩
        rw [← hb] at r0
        have hlq : (q : Int) < (bs.length : Int) := by omega
        obtain ⟨x, hx⟩ : ∃ x, x = S.f[q] := ⟨_, rfl⟩
        obtain ⟨v, hv⟩ : ∃ v, v = vs'.getD q undef := ⟨_, rfl⟩
        have hql : q < (tearN S l q).length := by rw [tearN_len S l hq]; exact hlt
        have hfl : RFAt wr b v x := by
          have h1 := HRQ.out.fl q hql
          have h2 : (tearN S l q)[q]'hql = S.f[q] := by
            have := tearN_get S l hlt
            rw [List.getElem?_eq_getElem hql] at this
            injection this
          have h3 : bs.getD q 0 = b := by rw [hb, List.getD_eq_getElem?_getD, List.getElem?_eq_getElem hqb]; rfl
          show RFAt wr b v x
          rw [hx, ← h2, hv, ← h3]
          exact h1
        have x0 : wr.cell? ⟨b, 0, none⟩ = some (.int .i64 (x.n : Int)) := by rw [blk_cell hfl.box]; rfl
        have x1 : wr.cell? ⟨b, 1, none⟩ = some (.string x.safe) := by rw [blk_cell hfl.box]; rfl
        have m0 : wr.cell? ⟨w.heap.size, 0, none⟩ = some (.int .i64 d) := by rw [blk_cell HWQ.out]; rfl
        have m1 : wr.cell? ⟨w.heap.size, 1, none⟩ = some (.slice A l.length c) := by rw [blk_cell HWQ.out]; rfl
        have HRDQ : Hid (∀ wx, wr.grownBy wx none → Rd wx B A (tcells l) ∧ B ≤ wx.heap.size) := hide fun wx k => ⟨(HRT.out.keep fun p hp => World.cell?_of_block (HTQ.out.block p.block (Nat.lt_of_lt_of_le hp HBB.out) fun ho => by have := HDIS.out _ ho; omega)).grown k (Nat.le_trans HBB.out HTQ.out.size) (by simp), Nat.le_trans HBB.out (Nat.le_trans HTQ.out.size k.size)⟩
        have HFL := hide hfl
        have HX := hide hx
        have HV := hide hv
        have HB := hide hb
        clear hfl hx hv hb hvF
        obtain ⟨Av, cv, hve, hcv, hcm⟩ := own_form0 HFL.out.row
        rw [hve] at HFL HV
        have HFA : Hid (∀ wx, wr.grownBy wx none → RFAt wx b (.slice Av x.l.length cv) x) := hide fun wx k => HFL.out.keep (k.block b (blk_lt HFL.out.box) (by simp)) (fun i hi => k.block i (HFL.out.row.lt i hi).2 (by simp))
        have HLT : Hid (q < S.f.length) := hide hlt
        have HQB : Hid (q < bs.length) := hide hqb
        have HBK : Hid (bs.getD q 0 = b) := hide (by rw [HB.out, List.getD_eq_getElem?_getD, List.getElem?_eq_getElem hqb]; rfl)
        have HNW : Hid (¬ ROwn g bs vs vF vD vS (.slice AM S.m.length cM) w.heap.size) := hide fun ho => by have := H.out.lt _ ho; omega
        have GX : Hid (GoodR x) := hide (by rw [HX.out]; exact GOOD.out _ (List.getElem_mem hlt))
        have HMINE : Hid (∀ i, i = b ∨ (Value.slice Av x.l.length cv).ownBlock = some i → ROwn g bs vs vF vD vS (.slice AM S.m.length cM) i) := hide fun i hi => by
          rcases hi with hi | hi
          · refine .inr (.inl ?_)
            rw [hi, ← HBK.out, List.getD_eq_getElem?_getD, List.getElem?_eq_getElem HQB.out]
            exact List.getElem_mem HQB.out
          · refine .inr (.inr (.inl (HOWN.out i ⟨_, ?_, hi⟩)))
            rw [HV.out, List.getD_eq_getElem?_getD, List.getElem?_eq_getElem (by rw [HRQ.out.lv]; show q < (tearN S l q).length; rw [tearN_len S l (Nat.le_of_lt HLT.out)]; exact HLT.out)]
            exact List.getElem_mem _
        obtain ⟨t, ht⟩ : ∃ t, t = tornR l x.n := ⟨_, rfl⟩
        have HT : Hid (t = tornR l x.n) := hide ht
        obtain ⟨ta, tb, tc⟩ := t
        have HTC : Hid (∀ wx, wr.grownBy wx none → Calls Tryz.prog 36 #[.agg #[.int .i64 d, .slice A l.length c], .int .i64 (x.n : Int)] wx fun e w' => e = .returned (.agg #[.int .i64 ta, .int .i64 tb, .int .i64 tc]) ∧ wx.grownBy w' none) := hide fun wx k => (rTorn_any d x.n A c B l wx (HRDQ.out wx k).1 (HRDQ.out wx k).2 hl).mono fun e w' h => by rw [← ht] at h; exact h
        have m0a : ∀ o, (wr.alloc o).cell? ⟨w.heap.size, 0, none⟩ = some (.int .i64 d) := fun o => by rw [World.cell?_alloc_lt wr o _ (blk_lt HWQ.out), blk_cell HWQ.out]; rfl
        have m1a : ∀ o, (wr.alloc o).cell? ⟨w.heap.size, 1, none⟩ = some (.slice A l.length c) := fun o => by rw [World.cell?_alloc_lt wr o _ (blk_lt HWQ.out), blk_cell HWQ.out]; rfl
        have x0a : ∀ o, (wr.alloc o).cell? ⟨b, 0, none⟩ = some (.int .i64 (x.n : Int)) := fun o => by rw [World.cell?_alloc_lt wr o _ (blk_lt HFL.out.box), blk_cell HFL.out.box]; rfl
        clear ht hcv hcm hve
        go_upto_region 13 with fail
        go_cut [8] (fun p wt => ∃ bt, p = .pointer (some ⟨bt, 0, none⟩) ∧ wt.heap[bt]? = some (.cells #[.int .i64 ta, .int .i64 tb, .int .i64 tc] 94 (0, 0)) ∧ wr.heap.size ≤ bt ∧ wr.grownBy wt none)
        case first =>
          go_region_law (first
            | (go_simp; go_at_call 36; refine (HTC.out wr.drew (gb_drew (gb_refl wr none))).mono ?_; rintro e w1 ⟨rfl, hg1⟩; have HG1 := hide (show wr.grownBy w1 none from ⟨hg1.os, hg1.tape, hg1.output, hg1.size, hg1.block⟩); clear hg1)
            | (go_simp; go_at_call 36; refine (HTC.out (wr.alloc (.cells #[.int .i64 0, .int .i64 0, .int .i64 0] 94)).drew (gb_drew (gb_alloc (gb_refl wr none) _))).mono ?_; rintro e w1 ⟨rfl, hg1⟩; have HG1 := hide (show wr.grownBy w1 none from gb_trans (gb_alloc (gb_refl wr none) (.cells #[.int .i64 0, .int .i64 0, .int .i64 0] 94)) (show (wr.alloc (.cells #[.int .i64 0, .int .i64 0, .int .i64 0] 94)).grownBy w1 none from ⟨hg1.os, hg1.tape, hg1.output, hg1.size, hg1.block⟩) (.inl rfl)); have HBX := hide (show w1.heap[wr.heap.size]? = some (.cells #[.int .i64 0, .int .i64 0, .int .i64 0] 94 (0, 0)) from (hg1.block _ (by simp) (by simp)).trans (heap_alloc_new wr _)); have p0 : w1.cell? ⟨wr.heap.size, 0, none⟩ = some (.int .i64 0) := (by { rw [blk_cell HBX.out]; rfl }); have p1 : w1.cell? ⟨wr.heap.size, 1, none⟩ = some (.int .i64 0) := (by { rw [blk_cell HBX.out]; rfl }); have p2 : w1.cell? ⟨wr.heap.size, 2, none⟩ = some (.int .i64 0) := (by { rw [blk_cell HBX.out]; rfl }); have f0 := blk_frozen HBX.out 0; have f1 := blk_frozen HBX.out 1; have f2 := blk_frozen HBX.out 2; clear hg1))
          all_goals first
            | (have hbx := HBX.out
               go_wp2_with fail
               go_meet
               case rel => exact ⟨wr.heap.size, rfl, blk_set (blk_set (blk_set hbx 0 _) 1 _) 2 _, Nat.le_refl _, gb_setCell (p := ⟨wr.heap.size, 2, none⟩) (gb_setCell (p := ⟨wr.heap.size, 1, none⟩) (gb_setCell (p := ⟨wr.heap.size, 0, none⟩) HG1.out (.inr (Nat.le_refl _)) _) (.inr (Nat.le_refl _)) _) (.inr (Nat.le_refl _)) _⟩)
            | (go_wp2_with fail
               go_meet
               case rel => exact ⟨w1.heap.size, rfl, heap_alloc_new w1 _, HG1.out.size, gb_alloc HG1.out _⟩)
        case rest =>
          obtain ⟨bt, rfl, hbt, hbl, hgt⟩ := hcut
          have HTB := hide hbt
          have HFC : Hid (∀ wx, wc.grownBy wx none → RFAt wx b (.slice Av x.l.length cv) x) := hide fun wx k => HFA.out wx (gb_trans hgt k (.inl rfl))
          have HRC := hide (HRQ.out.gb HRQ.out.lt hgt)
          have HTQ := hide (HTQ.out.trans (Turned.of_gb (M := fun _ => False) hgt (by simp)) (fun _ _ h => h.elim))
          have HWQ := hide (blk_keep HWQ.out hgt (by simp))
          clear hbt hbl m0a m1a x0a m0 m1 x0 x1 hgt HRQ HFA HFL HRDQ
          have x1 : wc.cell? ⟨b, 1, none⟩ = some (.string x.safe) := by rw [blk_cell (HFC.out wc (gb_refl wc none)).box]; rfl
          go_upto_region 15 with fail
          go_wp2_with fail
          clear x1
          go_loopw [9, 10] (fun p i wz => ∃ j : Nat, p = .string (doneL x.safe (x.l.take j)) ∧ i = .int .i64 (j : Int) ∧ j ≤ x.l.length ∧ (j = 0 ∨ (j : Int) ≤ tb) ∧ wc.grownBy wz none) (fun _ i _ => x.l.length - (intOf i).toNat)
          case atStart => exact ⟨0, rfl, rfl, Nat.zero_le _, .inl rfl, gb_refl wc none⟩
          case round =>
            obtain ⟨j, rfl, rfl, hj, hjt, hgz⟩ := hrel
            have HGR := hide hgz
            have hft := HFC.out wr hgz
            have htb := blk_keep HTB.out hgz (by simp)
            have x2 : wr.cell? ⟨b, 2, none⟩ = some (.slice Av x.l.length cv) := by rw [blk_cell hft.box]; rfl
            have k1 : wr.cell? ⟨bt, 1, none⟩ = some (.int .i64 tb) := by rw [blk_cell htb]; rfl
            have k2 : wr.cell? ⟨bt, 2, none⟩ = some (.int .i64 tc) := by rw [blk_cell htb]; rfl
            obtain ⟨P, hP⟩ : ∃ P, P = doneL x.safe (x.l.take j) := ⟨_, rfl⟩
            rw [← hP]
            have HP := hide hP
            by_cases hlt : j < x.l.length
            · have hjl : (j : Int) < (x.l.length : Int) := by omega
              obtain ⟨bd, hAv, d0, d1, d2⟩ := D_elem hft.row hlt
              obtain ⟨dd, hdd⟩ : ∃ dd, dd = x.l[j] := ⟨_, rfl⟩
              rw [← hdd] at d0 d1 d2
              have HDD := hide hdd
              obtain ⟨g1, g2, g3⟩ := GX.out.2.2 j hlt
              rw [← hdd, ← hP] at g1
              rw [← hP] at g2
              rw [← hdd] at g3
              have HJ := hide hlt
              have HDONE : Hid (∀ (n : Nat) (wx : World), dd.cut = true ∨ n ≤ dd.p.size → Calls Tryz.prog 37 #[.string P, .agg #[.bool dd.cut, .int .i64 (dd.at_ : Int), .string dd.p], .int .i64 (n : Int)] wx fun e w' => e = .returned (.string (doneR P dd n)) ∧ wx.grownBy w' none) := hide fun n wx hn => rDone_any P dd n wx g1 hn g2 g3
              have HG3 := hide g3
              clear hft htb hdd hP g1 g2 g3
              subst hAv
              by_cases hjt2 : (j : Int) < tb
              · have HE : Hid (doneL x.safe (x.l.take (j + 1)) = doneR P dd dd.p.size) := hide (by rw [doneL_succ _ HJ.out, ← HP.out, ← HDD.out])
                have HJT := hide hjt2
                have h6 : IntKind.i64.wrap ((j : Int) + 1) = ((j + 1 : Nat) : Int) := by rw [IntKind.wrap_i64]; have := GX.out.2.1; omega
                have d0' : wr.drew.cell? ⟨bd, j * 3, none⟩ = some (.bool dd.cut) := d0
                have d1' : wr.drew.cell? ⟨bd, j * 3 + 1, none⟩ = some (.int .i64 (dd.at_ : Int)) := d1
                have d2' : wr.drew.cell? ⟨bd, j * 3 + 2, none⟩ = some (.string dd.p) := d2
                go_wp2_with fail
                go_still_tail 17, (by kernel_rfl)
                go_wp2_with fail
                refine (HDONE.out dd.p.size _ (.inr (Nat.le_refl _))).mono ?_
                rintro e w7 ⟨rfl, hg7⟩
                have HG7 : Hid (wc.grownBy w7 none) := hide (gb_trans HGR.out (show wr.grownBy w7 none from ⟨hg7.os, hg7.tape, hg7.output, hg7.size, hg7.block⟩) (.inl rfl))
                clear hg7
                go_wp2_with fail
                go_roundw
                case rel => exact ⟨j + 1, by rw [HE.out], rfl, HJ.out, .inr (by have := HJT.out; omega), HG7.out⟩
                case measure => clear h6; have := HJ.out; simp [intOf]; omega
              · have HLN : Hid (leftN x (ta, tb, tc) = j) := hide (by unfold leftN; show min x.l.length (max tb 0).toNat = j; omega)
                have HTP : Hid (tearP x (ta, tb, tc) = if dd.cut = false ∧ 0 < tc then doneR P dd (min tc.toNat dd.p.size) else P) := hide (by
                  unfold tearP
                  have hl1 : leftN x (ta, tb, tc) < x.l.length := by rw [HLN.out]; exact HJ.out
                  rw [dif_pos hl1]
                  have e1 : x.l[leftN x (ta, tb, tc)] = dd := by
                    rw [HDD.out]
                    congr 1
                  rw [e1, HLN.out, ← HP.out])
                cases hcut : dd.cut
                · rw [hcut] at d0
                  by_cases hb : 0 < tc
                  · have HB0 := hide hb
                    have hk3 := HG3.out
                    by_cases hle : tc ≤ (dd.p.size : Int)
                    · have HDN : Hid (∀ wx : World, Calls Tryz.prog 37 #[.string P, .agg #[.bool false, .int .i64 (dd.at_ : Int), .string dd.p], .int .i64 tc] wx fun e w' => e = .returned (.string (doneR P dd tc.toNat)) ∧ wx.grownBy w' none) := hide fun wx => by have := HDONE.out tc.toNat wx (.inr (by omega)); rw [hcut, show ((tc.toNat : Nat) : Int) = tc by omega] at this; exact this
                      have HTP3 : Hid (tearP x (ta, tb, tc) = doneR P dd tc.toNat) := hide (by rw [HTP.out, if_pos ⟨hcut, hb⟩, Nat.min_eq_left (by omega)])
                      clear HTP HDONE hk3
                      go_wp2_with fail
                      go_still_tail 20, (by kernel_rfl)
                      go_wp2_with fail
                      refine (HDN.out _).mono ?_
                      rintro e w7 ⟨rfl, hg7⟩
                      have HG7 : Hid (wc.grownBy w7 none) := hide (gb_trans HGR.out (show wr.grownBy w7 none from ⟨hg7.os, hg7.tape, hg7.output, hg7.size, hg7.block⟩) (.inl rfl))
                      obtain ⟨Pz, hPz⟩ : ∃ Pz, Pz = tearP x (ta, tb, tc) := ⟨_, rfl⟩
                      have HTP2 := hide hPz
                      rw [← HTP3.out, ← hPz]
                      clear hg7 hPz x2 k1 k2 d0 d1 d2
                      go_upto_region 21 with fail
                      have HPE : Hid (Pz = tearP x (ta, tb, tc)) := hide (HTP2.out)
                      have HGZ : Hid (wc.grownBy w7 none) := hide HG7.out
                      have hfz := HFC.out w7 HGZ.out
                      obtain ⟨w5, hw5⟩ : ∃ w5, w5 = ((w7.setCell ⟨b, 3, none⟩ (.string Pz)).setCell ⟨b, 1, none⟩ (.string Pz)).setCell ⟨b, 2, none⟩ (.slice none 0 0) := ⟨_, rfl⟩
                      have hT5 : Turned (fun i => i = b ∨ (Value.slice (some ⟨bd, 0, none⟩) x.l.length cv).ownBlock = some i) w7 w5 := by
                        rw [hw5]
                        exact (((tg_set w7 b 3 (.string Pz)).trans (tg_set _ b 1 (.string Pz)) (M := fun i => i = b) (fun _ _ h => h)).trans (tg_set _ b 2 _) (M := fun i => i = b) (fun _ _ h => h)).mono fun _ _ h => .inl h
                      have hb5 : w5.heap[b]? = some (.cells #[.int .i64 (x.n : Int), .string Pz, .slice none 0 0, .string Pz] 108 (0, 0)) := by
                        rw [hw5]
                        exact blk_set (blk_set (blk_set hfz.box 3 (.string Pz)) 1 (.string Pz)) 2 (.slice none 0 0)
                      have hkq : q < (tearN S l q).length := by rw [tearN_len S l (Nat.le_of_lt HLT.out)]; exact HLT.out
                      have hRz := HRC.out.gb HRC.out.lt HGZ.out
                      have hR5 := hRz.filed hkq HBK.out HV.out.symm ⟨x.n, Pz, [], Pz⟩ (.slice none 0 0) hT5 hb5 ⟨rfl, .inl ⟨rfl, rfl⟩⟩ (.inl rfl)
                      have HR5 : Hid (RAt w5 g ⟨tearN S l (q + 1), D, D, [], S.cap, S.ops, S.left, S.off⟩ bs (vs'.set q (.slice none 0 0)) vF (.slice A1 D.length c1) (.slice A3 D.length c3) (.slice none 0 0)) := hide (by
                        have e : (tearN S l q).set q ⟨x.n, Pz, [], Pz⟩ = tearN S l (q + 1) := by
                          rw [HPE.out, HT.out, HX.out]
                          exact tearN_set S l HLT.out
                        have h9 : RAt w5 g ⟨(tearN S l q).set q ⟨x.n, Pz, [], Pz⟩, D, D, [], S.cap, S.ops, S.left, S.off⟩ bs (vs'.set q (.slice none 0 0)) vF (.slice A1 D.length c1) (.slice A3 D.length c3) (.slice none 0 0) := hR5
                        rw [e] at h9
                        exact h9)
                      have HO5 : Hid (∀ i, (∃ v ∈ vs'.set q (Value.slice none 0 0), v.ownBlock = some i) → ∃ v ∈ vs, v.ownBlock = some i) := hide fun i ⟨u, hu, hi⟩ => by
                        rcases List.mem_or_eq_of_mem_set hu with hu | rfl
                        · exact HOWN.out i ⟨u, hu, hi⟩
                        · simp [Value.ownBlock] at hi
                      have HT5 : Hid (Turned (ROwn g bs vs vF vD vS (.slice AM S.m.length cM)) w w5) := hide ((HTQ.out.trans (Turned.of_gb (M := fun _ => False) HGZ.out (by simp)) (fun _ _ h => h.elim)).trans hT5 fun i _ hi => HMINE.out i hi)
                      have HW5 : Hid (w5.heap[w.heap.size]? = some (.cells #[.int .i64 d, .slice A l.length c] 36 (0, 0))) := hide ((hT5.block _ (blk_lt (blk_keep HWQ.out HGZ.out (by simp))) fun hi => HNW.out (HMINE.out _ hi)).trans (blk_keep HWQ.out HGZ.out (by simp)))
                      have HWE5 := hide hw5
                      have y3 := blk_frozen hfz.box 3
                      have v1 : w7.cell? ⟨b, 1, none⟩ = some (.string x.safe) := by rw [blk_cell hfz.box]; rfl
                      have v2 : w7.cell? ⟨b, 2, none⟩ = some (.slice (some ⟨bd, 0, none⟩) x.l.length cv) := by rw [blk_cell hfz.box]; rfl
                      have v3 : w7.cell? ⟨b, 3, none⟩ = some (.string x.p) := by rw [blk_cell hfz.box]; rfl
                      have y1 := blk_frozen hfz.box 1
                      have y2 := blk_frozen hfz.box 2
                      have h6q : IntKind.i64.wrap ((q : Int) + 1) = ((q + 1 : Nat) : Int) := by rw [IntKind.wrap_i64]; have := OK.out.num.2; have := HLT.out; omega
                      clear hfz hT5 hb5 hkq hRz hR5 hw5
                      go_wp2_with fail
                      rw [← HWE5.out]
                      go_roundw
                      case rel => exact ⟨q + 1, _, rfl, HLT.out, HR5.out, HO5.out, HT5.out, HW5.out⟩
                      case measure => clear h6q; have := HLT.out; simp [intOf]; omega
                    · have HDN : Hid (∀ wx : World, Calls Tryz.prog 37 #[.string P, .agg #[.bool false, .int .i64 (dd.at_ : Int), .string dd.p], .int .i64 (dd.p.size : Int)] wx fun e w' => e = .returned (.string (doneR P dd dd.p.size)) ∧ wx.grownBy w' none) := hide fun wx => by have := HDONE.out dd.p.size wx (.inr (Nat.le_refl _)); rw [hcut] at this; exact this
                      have HTP3 : Hid (tearP x (ta, tb, tc) = doneR P dd dd.p.size) := hide (by rw [HTP.out, if_pos ⟨hcut, hb⟩, Nat.min_eq_right (by omega)])
                      clear HTP HDONE hk3
                      go_wp2_with fail
                      go_still_tail 20, (by kernel_rfl)
                      go_wp2_with fail
                      refine (HDN.out _).mono ?_
                      rintro e w7 ⟨rfl, hg7⟩
                      have HG7 : Hid (wc.grownBy w7 none) := hide (gb_trans HGR.out (show wr.grownBy w7 none from ⟨hg7.os, hg7.tape, hg7.output, hg7.size, hg7.block⟩) (.inl rfl))
                      obtain ⟨Pz, hPz⟩ : ∃ Pz, Pz = tearP x (ta, tb, tc) := ⟨_, rfl⟩
                      have HTP2 := hide hPz
                      rw [← HTP3.out, ← hPz]
                      clear hg7 hPz x2 k1 k2 d0 d1 d2
                      go_upto_region 21 with fail
                      have HPE : Hid (Pz = tearP x (ta, tb, tc)) := hide (HTP2.out)
                      have HGZ : Hid (wc.grownBy w7 none) := hide HG7.out
                      have hfz := HFC.out w7 HGZ.out
                      obtain ⟨w5, hw5⟩ : ∃ w5, w5 = ((w7.setCell ⟨b, 3, none⟩ (.string Pz)).setCell ⟨b, 1, none⟩ (.string Pz)).setCell ⟨b, 2, none⟩ (.slice none 0 0) := ⟨_, rfl⟩
                      have hT5 : Turned (fun i => i = b ∨ (Value.slice (some ⟨bd, 0, none⟩) x.l.length cv).ownBlock = some i) w7 w5 := by
                        rw [hw5]
                        exact (((tg_set w7 b 3 (.string Pz)).trans (tg_set _ b 1 (.string Pz)) (M := fun i => i = b) (fun _ _ h => h)).trans (tg_set _ b 2 _) (M := fun i => i = b) (fun _ _ h => h)).mono fun _ _ h => .inl h
                      have hb5 : w5.heap[b]? = some (.cells #[.int .i64 (x.n : Int), .string Pz, .slice none 0 0, .string Pz] 108 (0, 0)) := by
                        rw [hw5]
                        exact blk_set (blk_set (blk_set hfz.box 3 (.string Pz)) 1 (.string Pz)) 2 (.slice none 0 0)
                      have hkq : q < (tearN S l q).length := by rw [tearN_len S l (Nat.le_of_lt HLT.out)]; exact HLT.out
                      have hRz := HRC.out.gb HRC.out.lt HGZ.out
                      have hR5 := hRz.filed hkq HBK.out HV.out.symm ⟨x.n, Pz, [], Pz⟩ (.slice none 0 0) hT5 hb5 ⟨rfl, .inl ⟨rfl, rfl⟩⟩ (.inl rfl)
                      have HR5 : Hid (RAt w5 g ⟨tearN S l (q + 1), D, D, [], S.cap, S.ops, S.left, S.off⟩ bs (vs'.set q (.slice none 0 0)) vF (.slice A1 D.length c1) (.slice A3 D.length c3) (.slice none 0 0)) := hide (by
                        have e : (tearN S l q).set q ⟨x.n, Pz, [], Pz⟩ = tearN S l (q + 1) := by
                          rw [HPE.out, HT.out, HX.out]
                          exact tearN_set S l HLT.out
                        have h9 : RAt w5 g ⟨(tearN S l q).set q ⟨x.n, Pz, [], Pz⟩, D, D, [], S.cap, S.ops, S.left, S.off⟩ bs (vs'.set q (.slice none 0 0)) vF (.slice A1 D.length c1) (.slice A3 D.length c3) (.slice none 0 0) := hR5
                        rw [e] at h9
                        exact h9)
                      have HO5 : Hid (∀ i, (∃ v ∈ vs'.set q (Value.slice none 0 0), v.ownBlock = some i) → ∃ v ∈ vs, v.ownBlock = some i) := hide fun i ⟨u, hu, hi⟩ => by
                        rcases List.mem_or_eq_of_mem_set hu with hu | rfl
                        · exact HOWN.out i ⟨u, hu, hi⟩
                        · simp [Value.ownBlock] at hi
                      have HT5 : Hid (Turned (ROwn g bs vs vF vD vS (.slice AM S.m.length cM)) w w5) := hide ((HTQ.out.trans (Turned.of_gb (M := fun _ => False) HGZ.out (by simp)) (fun _ _ h => h.elim)).trans hT5 fun i _ hi => HMINE.out i hi)
                      have HW5 : Hid (w5.heap[w.heap.size]? = some (.cells #[.int .i64 d, .slice A l.length c] 36 (0, 0))) := hide ((hT5.block _ (blk_lt (blk_keep HWQ.out HGZ.out (by simp))) fun hi => HNW.out (HMINE.out _ hi)).trans (blk_keep HWQ.out HGZ.out (by simp)))
                      have HWE5 := hide hw5
                      have y3 := blk_frozen hfz.box 3
                      have v1 : w7.cell? ⟨b, 1, none⟩ = some (.string x.safe) := by rw [blk_cell hfz.box]; rfl
                      have v2 : w7.cell? ⟨b, 2, none⟩ = some (.slice (some ⟨bd, 0, none⟩) x.l.length cv) := by rw [blk_cell hfz.box]; rfl
                      have v3 : w7.cell? ⟨b, 3, none⟩ = some (.string x.p) := by rw [blk_cell hfz.box]; rfl
                      have y1 := blk_frozen hfz.box 1
                      have y2 := blk_frozen hfz.box 2
                      have h6q : IntKind.i64.wrap ((q : Int) + 1) = ((q + 1 : Nat) : Int) := by rw [IntKind.wrap_i64]; have := OK.out.num.2; have := HLT.out; omega
                      clear hfz hT5 hb5 hkq hRz hR5 hw5
                      go_wp2_with fail
                      rw [← HWE5.out]
                      go_roundw
                      case rel => exact ⟨q + 1, _, rfl, HLT.out, HR5.out, HO5.out, HT5.out, HW5.out⟩
                      case measure => clear h6q; have := HLT.out; simp [intOf]; omega
                  · have HTP2 : Hid (tearP x (ta, tb, tc) = P) := hide (by rw [HTP.out, if_neg (fun h => hb h.2)])
                    clear HTP HDONE
                    go_upto_region 21 with fail
                    have HPE : Hid (P = tearP x (ta, tb, tc)) := hide (HTP2.out.symm)
                    have HGZ : Hid (wc.grownBy wr none) := hide HGR.out
                    have hfz := HFC.out wr HGZ.out
                    obtain ⟨w5, hw5⟩ : ∃ w5, w5 = ((wr.setCell ⟨b, 3, none⟩ (.string P)).setCell ⟨b, 1, none⟩ (.string P)).setCell ⟨b, 2, none⟩ (.slice none 0 0) := ⟨_, rfl⟩
                    have hT5 : Turned (fun i => i = b ∨ (Value.slice (some ⟨bd, 0, none⟩) x.l.length cv).ownBlock = some i) wr w5 := by
                      rw [hw5]
                      exact (((tg_set wr b 3 (.string P)).trans (tg_set _ b 1 (.string P)) (M := fun i => i = b) (fun _ _ h => h)).trans (tg_set _ b 2 _) (M := fun i => i = b) (fun _ _ h => h)).mono fun _ _ h => .inl h
                    have hb5 : w5.heap[b]? = some (.cells #[.int .i64 (x.n : Int), .string P, .slice none 0 0, .string P] 108 (0, 0)) := by
                      rw [hw5]
                      exact blk_set (blk_set (blk_set hfz.box 3 (.string P)) 1 (.string P)) 2 (.slice none 0 0)
                    have hkq : q < (tearN S l q).length := by rw [tearN_len S l (Nat.le_of_lt HLT.out)]; exact HLT.out
                    have hRz := HRC.out.gb HRC.out.lt HGZ.out
                    have hR5 := hRz.filed hkq HBK.out HV.out.symm ⟨x.n, P, [], P⟩ (.slice none 0 0) hT5 hb5 ⟨rfl, .inl ⟨rfl, rfl⟩⟩ (.inl rfl)
                    have HR5 : Hid (RAt w5 g ⟨tearN S l (q + 1), D, D, [], S.cap, S.ops, S.left, S.off⟩ bs (vs'.set q (.slice none 0 0)) vF (.slice A1 D.length c1) (.slice A3 D.length c3) (.slice none 0 0)) := hide (by
                      have e : (tearN S l q).set q ⟨x.n, P, [], P⟩ = tearN S l (q + 1) := by
                        rw [HPE.out, HT.out, HX.out]
                        exact tearN_set S l HLT.out
                      have h9 : RAt w5 g ⟨(tearN S l q).set q ⟨x.n, P, [], P⟩, D, D, [], S.cap, S.ops, S.left, S.off⟩ bs (vs'.set q (.slice none 0 0)) vF (.slice A1 D.length c1) (.slice A3 D.length c3) (.slice none 0 0) := hR5
                      rw [e] at h9
                      exact h9)
                    have HO5 : Hid (∀ i, (∃ v ∈ vs'.set q (Value.slice none 0 0), v.ownBlock = some i) → ∃ v ∈ vs, v.ownBlock = some i) := hide fun i ⟨u, hu, hi⟩ => by
                      rcases List.mem_or_eq_of_mem_set hu with hu | rfl
                      · exact HOWN.out i ⟨u, hu, hi⟩
                      · simp [Value.ownBlock] at hi
                    have HT5 : Hid (Turned (ROwn g bs vs vF vD vS (.slice AM S.m.length cM)) w w5) := hide ((HTQ.out.trans (Turned.of_gb (M := fun _ => False) HGZ.out (by simp)) (fun _ _ h => h.elim)).trans hT5 fun i _ hi => HMINE.out i hi)
                    have HW5 : Hid (w5.heap[w.heap.size]? = some (.cells #[.int .i64 d, .slice A l.length c] 36 (0, 0))) := hide ((hT5.block _ (blk_lt (blk_keep HWQ.out HGZ.out (by simp))) fun hi => HNW.out (HMINE.out _ hi)).trans (blk_keep HWQ.out HGZ.out (by simp)))
                    have HWE5 := hide hw5
                    have y3 := blk_frozen hfz.box 3
                    have v1 : wr.cell? ⟨b, 1, none⟩ = some (.string x.safe) := by rw [blk_cell hfz.box]; rfl
                    have v2 : wr.cell? ⟨b, 2, none⟩ = some (.slice (some ⟨bd, 0, none⟩) x.l.length cv) := by rw [blk_cell hfz.box]; rfl
                    have v3 : wr.cell? ⟨b, 3, none⟩ = some (.string x.p) := by rw [blk_cell hfz.box]; rfl
                    have y1 := blk_frozen hfz.box 1
                    have y2 := blk_frozen hfz.box 2
                    have h6q : IntKind.i64.wrap ((q : Int) + 1) = ((q + 1 : Nat) : Int) := by rw [IntKind.wrap_i64]; have := OK.out.num.2; have := HLT.out; omega
                    clear hfz hT5 hb5 hkq hRz hR5 hw5
                    go_wp2_with fail
                    rw [← HWE5.out]
                    go_roundw
                    case rel => exact ⟨q + 1, _, rfl, HLT.out, HR5.out, HO5.out, HT5.out, HW5.out⟩
                    case measure => clear h6q; have := HLT.out; simp [intOf]; omega
                · rw [hcut] at d0
                  have HTP2 : Hid (tearP x (ta, tb, tc) = P) := hide (by rw [HTP.out, if_neg (fun h => by rw [hcut] at h; cases h.1)])
                  clear HTP HDONE
                  go_upto_region 21 with fail
                  have HPE : Hid (P = tearP x (ta, tb, tc)) := hide (HTP2.out.symm)
                  have HGZ : Hid (wc.grownBy wr none) := hide HGR.out
                  have hfz := HFC.out wr HGZ.out
                  obtain ⟨w5, hw5⟩ : ∃ w5, w5 = ((wr.setCell ⟨b, 3, none⟩ (.string P)).setCell ⟨b, 1, none⟩ (.string P)).setCell ⟨b, 2, none⟩ (.slice none 0 0) := ⟨_, rfl⟩
                  have hT5 : Turned (fun i => i = b ∨ (Value.slice (some ⟨bd, 0, none⟩) x.l.length cv).ownBlock = some i) wr w5 := by
                    rw [hw5]
                    exact (((tg_set wr b 3 (.string P)).trans (tg_set _ b 1 (.string P)) (M := fun i => i = b) (fun _ _ h => h)).trans (tg_set _ b 2 _) (M := fun i => i = b) (fun _ _ h => h)).mono fun _ _ h => .inl h
                  have hb5 : w5.heap[b]? = some (.cells #[.int .i64 (x.n : Int), .string P, .slice none 0 0, .string P] 108 (0, 0)) := by
                    rw [hw5]
                    exact blk_set (blk_set (blk_set hfz.box 3 (.string P)) 1 (.string P)) 2 (.slice none 0 0)
                  have hkq : q < (tearN S l q).length := by rw [tearN_len S l (Nat.le_of_lt HLT.out)]; exact HLT.out
                  have hRz := HRC.out.gb HRC.out.lt HGZ.out
                  have hR5 := hRz.filed hkq HBK.out HV.out.symm ⟨x.n, P, [], P⟩ (.slice none 0 0) hT5 hb5 ⟨rfl, .inl ⟨rfl, rfl⟩⟩ (.inl rfl)
                  have HR5 : Hid (RAt w5 g ⟨tearN S l (q + 1), D, D, [], S.cap, S.ops, S.left, S.off⟩ bs (vs'.set q (.slice none 0 0)) vF (.slice A1 D.length c1) (.slice A3 D.length c3) (.slice none 0 0)) := hide (by
                    have e : (tearN S l q).set q ⟨x.n, P, [], P⟩ = tearN S l (q + 1) := by
                      rw [HPE.out, HT.out, HX.out]
                      exact tearN_set S l HLT.out
                    have h9 : RAt w5 g ⟨(tearN S l q).set q ⟨x.n, P, [], P⟩, D, D, [], S.cap, S.ops, S.left, S.off⟩ bs (vs'.set q (.slice none 0 0)) vF (.slice A1 D.length c1) (.slice A3 D.length c3) (.slice none 0 0) := hR5
                    rw [e] at h9
                    exact h9)
                  have HO5 : Hid (∀ i, (∃ v ∈ vs'.set q (Value.slice none 0 0), v.ownBlock = some i) → ∃ v ∈ vs, v.ownBlock = some i) := hide fun i ⟨u, hu, hi⟩ => by
                    rcases List.mem_or_eq_of_mem_set hu with hu | rfl
                    · exact HOWN.out i ⟨u, hu, hi⟩
                    · simp [Value.ownBlock] at hi
                  have HT5 : Hid (Turned (ROwn g bs vs vF vD vS (.slice AM S.m.length cM)) w w5) := hide ((HTQ.out.trans (Turned.of_gb (M := fun _ => False) HGZ.out (by simp)) (fun _ _ h => h.elim)).trans hT5 fun i _ hi => HMINE.out i hi)
                  have HW5 : Hid (w5.heap[w.heap.size]? = some (.cells #[.int .i64 d, .slice A l.length c] 36 (0, 0))) := hide ((hT5.block _ (blk_lt (blk_keep HWQ.out HGZ.out (by simp))) fun hi => HNW.out (HMINE.out _ hi)).trans (blk_keep HWQ.out HGZ.out (by simp)))
                  have HWE5 := hide hw5
                  have y3 := blk_frozen hfz.box 3
                  have v1 : wr.cell? ⟨b, 1, none⟩ = some (.string x.safe) := by rw [blk_cell hfz.box]; rfl
                  have v2 : wr.cell? ⟨b, 2, none⟩ = some (.slice (some ⟨bd, 0, none⟩) x.l.length cv) := by rw [blk_cell hfz.box]; rfl
                  have v3 : wr.cell? ⟨b, 3, none⟩ = some (.string x.p) := by rw [blk_cell hfz.box]; rfl
                  have y1 := blk_frozen hfz.box 1
                  have y2 := blk_frozen hfz.box 2
                  have h6q : IntKind.i64.wrap ((q : Int) + 1) = ((q + 1 : Nat) : Int) := by rw [IntKind.wrap_i64]; have := OK.out.num.2; have := HLT.out; omega
                  clear hfz hT5 hb5 hkq hRz hR5 hw5
                  go_wp2_with fail
                  rw [← HWE5.out]
                  go_roundw
                  case rel => exact ⟨q + 1, _, rfl, HLT.out, HR5.out, HO5.out, HT5.out, HW5.out⟩
                  case measure => clear h6q; have := HLT.out; simp [intOf]; omega
            · have hje : j = x.l.length := by omega
              have HTP2 : Hid (tearP x (ta, tb, tc) = P) := hide (by
                unfold tearP
                have hl1 : leftN x (ta, tb, tc) = x.l.length := by unfold leftN; show min x.l.length (max tb 0).toNat = x.l.length; omega
                rw [dif_neg (by omega), hl1, HP.out, hje])
              have hjl : ¬ (j : Int) < (x.l.length : Int) := by omega
              clear hft htb hP
              go_upto_region 21 with fail
              have HPE : Hid (P = tearP x (ta, tb, tc)) := hide (HTP2.out.symm)
              have HGZ : Hid (wc.grownBy wr none) := hide HGR.out
              have hfz := HFC.out wr HGZ.out
              obtain ⟨w5, hw5⟩ : ∃ w5, w5 = ((wr.setCell ⟨b, 3, none⟩ (.string P)).setCell ⟨b, 1, none⟩ (.string P)).setCell ⟨b, 2, none⟩ (.slice none 0 0) := ⟨_, rfl⟩
              have hT5 : Turned (fun i => i = b ∨ (Value.slice Av x.l.length cv).ownBlock = some i) wr w5 := by
                rw [hw5]
                exact (((tg_set wr b 3 (.string P)).trans (tg_set _ b 1 (.string P)) (M := fun i => i = b) (fun _ _ h => h)).trans (tg_set _ b 2 _) (M := fun i => i = b) (fun _ _ h => h)).mono fun _ _ h => .inl h
              have hb5 : w5.heap[b]? = some (.cells #[.int .i64 (x.n : Int), .string P, .slice none 0 0, .string P] 108 (0, 0)) := by
                rw [hw5]
                exact blk_set (blk_set (blk_set hfz.box 3 (.string P)) 1 (.string P)) 2 (.slice none 0 0)
              have hkq : q < (tearN S l q).length := by rw [tearN_len S l (Nat.le_of_lt HLT.out)]; exact HLT.out
              have hRz := HRC.out.gb HRC.out.lt HGZ.out
              have hR5 := hRz.filed hkq HBK.out HV.out.symm ⟨x.n, P, [], P⟩ (.slice none 0 0) hT5 hb5 ⟨rfl, .inl ⟨rfl, rfl⟩⟩ (.inl rfl)
              have HR5 : Hid (RAt w5 g ⟨tearN S l (q + 1), D, D, [], S.cap, S.ops, S.left, S.off⟩ bs (vs'.set q (.slice none 0 0)) vF (.slice A1 D.length c1) (.slice A3 D.length c3) (.slice none 0 0)) := hide (by
                have e : (tearN S l q).set q ⟨x.n, P, [], P⟩ = tearN S l (q + 1) := by
                  rw [HPE.out, HT.out, HX.out]
                  exact tearN_set S l HLT.out
                have h9 : RAt w5 g ⟨(tearN S l q).set q ⟨x.n, P, [], P⟩, D, D, [], S.cap, S.ops, S.left, S.off⟩ bs (vs'.set q (.slice none 0 0)) vF (.slice A1 D.length c1) (.slice A3 D.length c3) (.slice none 0 0) := hR5
                rw [e] at h9
                exact h9)
              have HO5 : Hid (∀ i, (∃ v ∈ vs'.set q (Value.slice none 0 0), v.ownBlock = some i) → ∃ v ∈ vs, v.ownBlock = some i) := hide fun i ⟨u, hu, hi⟩ => by
                rcases List.mem_or_eq_of_mem_set hu with hu | rfl
                · exact HOWN.out i ⟨u, hu, hi⟩
                · simp [Value.ownBlock] at hi
              have HT5 : Hid (Turned (ROwn g bs vs vF vD vS (.slice AM S.m.length cM)) w w5) := hide ((HTQ.out.trans (Turned.of_gb (M := fun _ => False) HGZ.out (by simp)) (fun _ _ h => h.elim)).trans hT5 fun i _ hi => HMINE.out i hi)
              have HW5 : Hid (w5.heap[w.heap.size]? = some (.cells #[.int .i64 d, .slice A l.length c] 36 (0, 0))) := hide ((hT5.block _ (blk_lt (blk_keep HWQ.out HGZ.out (by simp))) fun hi => HNW.out (HMINE.out _ hi)).trans (blk_keep HWQ.out HGZ.out (by simp)))
              have HWE5 := hide hw5
              have y3 := blk_frozen hfz.box 3
              have v1 : wr.cell? ⟨b, 1, none⟩ = some (.string x.safe) := by rw [blk_cell hfz.box]; rfl
              have v2 : wr.cell? ⟨b, 2, none⟩ = some (.slice Av x.l.length cv) := by rw [blk_cell hfz.box]; rfl
              have v3 : wr.cell? ⟨b, 3, none⟩ = some (.string x.p) := by rw [blk_cell hfz.box]; rfl
              have y1 := blk_frozen hfz.box 1
              have y2 := blk_frozen hfz.box 2
              have h6q : IntKind.i64.wrap ((q : Int) + 1) = ((q + 1 : Nat) : Int) := by rw [IntKind.wrap_i64]; have := OK.out.num.2; have := HLT.out; omega
              clear hfz hT5 hb5 hkq hRz hR5 hw5
              go_wp2_with fail
              rw [← HWE5.out]
              go_roundw
              case rel => exact ⟨q + 1, _, rfl, HLT.out, HR5.out, HO5.out, HT5.out, HW5.out⟩
              case measure => clear h6q; have := HLT.out; simp [intOf]; omega
      · have hqe : q = S.f.length := by omega
        have HLB := hide hlb
        have h7 : wr.cell? ⟨g, 7, none⟩ = some (.bool S.off) := by rw [blk_cell HRQ.out.box]; rfl
        have h6 : wr.cell? ⟨g, 6, none⟩ = some (.int .i64 S.left) := by rw [blk_cell HRQ.out.box]; rfl
        have z7 := blk_frozen HRQ.out.box 7
        have z6 := blk_frozen HRQ.out.box 6
        have HQE := hide hqe
        have hlq : ¬ (q : Int) < (bs.length : Int) := by omega
        clear hqe hq hlt hvF
        go_wp2_with fail
        go_end0
        have hT := (tg_set wr g 7 (.bool false)).trans (tg_set (wr.setCell ⟨g, 7, none⟩ (.bool false)) g 6 (.int .i64 (-1))) (M := fun i => i = g) (fun _ _ h => h)
        have hfin := HRQ.out.top hT (crashR S d l) (by rw [HQE.out, tearN_all]; rfl) HDJ.out.symm HDJ.out.symm rfl (blk_set (blk_set HRQ.out.box 7 _) 6 _)
        refine ⟨rfl, bs, vs', vF, .slice A1 D.length c1, .slice A3 D.length c3, .slice none 0 0, hfin, fun i hi => ?_, HTQ.out.trans hT fun i _ hi => .inl hi⟩
        rcases hi with h | h | h | h | h | h | h
        · exact .inl (.inl h)
        · exact .inl (.inr (.inl h))
        · exact .inl (.inr (.inr (.inl (HOWN.out i h))))
        · exact .inl (.inr (.inr (.inr (.inl h))))
        · exact .inr (HND.out i (.inl h))
        · exact .inr (HND.out i (.inr h))
        · simp [Value.ownBlock] at h
  clear aK
  go_loopw [4, 5] (fun dv i wr => ∃ j : Nat, i = .int .i64 (j : Int) ∧ j ≤ S.m.length ∧ (j = 0 ∨ (j : Int) ≤ d) ∧ wr.ownsRow 0 151 2 dv (crashD S j).length (encE (crashD S j)) ∧ wa.grownBy wr none) (fun _ i _ => S.m.length - (intOf i).toNat)
  case atStart => exact ⟨0, rfl, Nat.zero_le _, .inl rfl, HA.out.rS, gb_refl wa none⟩
  case round =>
    obtain ⟨j, rfl, hj, hjd, hrow, hgr⟩ := hrel
    have HR := hide (HA.out.gb HA.out.lt hgr)
    have HGR := hide hgr
    have HROW := hide hrow
    have hb3 : wr.cell? ⟨g, 3, none⟩ = some (.slice AM S.m.length cM) := by rw [blk_cell HR.out.box]; rfl
    have hw0 : wr.cell? ⟨w.heap.size, 0, none⟩ = some (.int .i64 d) := by rw [blk_cell ((hgr.block _ (blk_lt HW.out) (by simp)).trans HW.out)]; rfl
    clear hrow hgr
    by_cases hlt : j < S.m.length
    · by_cases hjd2 : (j : Int) < d
      · obtain ⟨bm, rfl, p0, p1, p2, p3⟩ := M_elem HR.out.rM hlt
        have hjl : (j : Int) < (S.m.length : Int) := by omega
        obtain ⟨m, hm⟩ : ∃ m, m = S.m[j] := ⟨_, rfl⟩
        rw [← hm] at p0 p1 p2 p3
        have HC := hide (rMoved_any (crashD S j) u4 m 0 wr HROW.out (by have := crashD_le S j; have := HSM.out; omega) (by rw [hm]; exact HK.out _ (List.getElem_mem hlt)))
        have HE : Hid (crashD S (j + 1) = movedR (crashD S j) m) := hide (by rw [crashD_succ hlt, hm])
        clear hm
        go_wp2_with (go_at_call 35; refine HC.out.mono ?_; rintro e w2 ⟨A2, c2, rfl, ho2, hg2⟩; have HO2 := hide ho2; have HG2 := hide hg2; clear ho2 hg2)
        go_roundw
        case rel => exact ⟨j + 1, by go_num, by omega, .inr (by omega), by rw [HE.out]; exact ownsRow_less HO2.out (Nat.zero_le _), gb_trans HGR.out HG2.out (.inl rfl)⟩
        case measure => simp [intOf]; omega
      · have HN : Hid (crashN S d = j) := hide (by unfold crashN; omega)
        go_wp2_with fail
        exact REST _ _ _ _ _ _ _ _ _ _ _ _ _ _ _ _ _ _ _ _ _ _ _ _ _ _ _ HN.out.symm HROW.out HGR.out
    · have HN : Hid (crashN S d = j) := hide (by unfold crashN; omega)
      go_wp2_with fail
      exact REST _ _ _ _ _ _ _ _ _ _ _ _ _ _ _ _ _ _ _ _ _ _ _ _ _ _ _ HN.out.symm HROW.out HGR.out
end Go.Proofs.YtmcmlkglkpbnpaaGreat
