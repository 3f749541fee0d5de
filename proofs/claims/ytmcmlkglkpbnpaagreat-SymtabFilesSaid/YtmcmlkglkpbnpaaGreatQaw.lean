/-
  Files in memory; the contracts of file.do, FS.named, FS.find, file.settle.
-/
import Derived.Test.YtmcmlkglkpbnpaaGreatQav
import Derived.Deep.RegionLaw
namespace Go.Proofs.YtmcmlkglkpbnpaaGreat
open Go.RowKit
set_option maxHeartbeats 4000000 in
set_option maxRecDepth 100000 in
theorem do_putA (g : Nat) (v : FlV) (own rd : Nat → Prop) (xs bs zs : List UInt8) (k d m c cp : Nat) (A Ap : Option Addr) (w : World) (h : FlB w g v) (hb : BsAt w own v.vb xs) (hv : v.vb = .slice A (k + d) c) (hn : k + d = xs.length)
  (hp : PAt w rd (.slice Ap m cp) bs) (hm : m = bs.length) (hmd : m ≤ d) (hdis : ∀ i, rd i → ¬ own i ∧ i < w.heap.size) (hlen : xs.length + bs.length ≤ 1000000000) (hz : zs = xs.take k ++ bs ++ xs.drop (k + bs.length)) :
  Calls Tryz.prog 69 #[.pointer (some ⟨g, 0, none⟩), .agg #[.bool false, .int .i64 (k : Int), .slice Ap m cp]] w (DoPost g v own xs zs w) := by
 obtain ⟨_, _, e, hnc, hc⟩ := hb.form
 rw [hv] at e
 injection e with e1 e2 e3
 subst e1; subst e3
 obtain ⟨_, _, e, hmc, hcp⟩ := hp.form
 injection e with e4 e5 e6
 subst e4; subst e6
 unfold maxLen at hc hcp
 have hst := fun ho => DoMid.start (o := m) (O := .cells #[.bool false, .int .i64 (k : Int), .slice Ap m cp] 147) h hv hb hp ho 1
 have hst0 := DoMid.start (o := 0) (O := .cells #[.bool false, .int .i64 (k : Int), .slice Ap m cp] 147) h hv hb hp (fun h => absurd h (Nat.lt_irrefl _)) 1
 have hkc : k + d ≤ c := by omega
 have hmc' : m ≤ cp := by omega
 have hgw := h.lt
 have H0 := hide h
 have HV := hide hv
 have HN := hide hn
 have HM := hide hm
 have HZ := hide hz
 have HST := hide hst
 have HST0 := hide hst0
 have HD := hide hdis
 have hw : IntKind.i64.wrap ((k : Int) + (d : Int) - (k : Int)) = (d : Int) := by
  rw [show (k : Int) + (d : Int) - (k : Int) = d by omega]
  exact IntWalk.i64_in _ (by omega)
 have HW := hide hw
 have hwb := heap_alloc_new w (.cells #[.bool false, .int .i64 (k : Int), .slice Ap m cp] 147)
 have HWB := hide hwb
 have hfa := h.alloc (.cells #[.bool false, .int .i64 (k : Int), .slice Ap m cp] 147)
 have HFA := hide hfa
 have hmd' : (m : Int) ≤ (d : Int) := by omega
 have HLEN : Hid (xs.length + bs.length ≤ 1000000000) := hide hlen
 obtain ⟨i0, hi, hz0, hz1, hz2⟩ := info_parts Tryz.info8
 have HI := hide hi
 have HZ1 := hide hz1
 clear h hb hv hn hp hm hst hst0 hdis hw e2 e5 hwb hfa hz hlen hi hz0 hz1 hz2
 go_enter Tryz.func69, Tryz.ntmps69
 go_wp2
 generalize hwa : w.alloc (.cells #[.bool false, .int .i64 (k : Int), .slice Ap m cp] 147) = wa at *
 clear hwa
 have h1 := HFA.out.c1
 have h3 := HFA.out.c3
 have f1 := HFA.out.fr 1
 have f3 := HFA.out.fr 3
 rw [HV.out] at h1
 have b1 : wa.cell? ⟨w.heap.size, 1, none⟩ = some (.int .i64 (k : Int)) := by rw [blk_cell HWB.out]; rfl
 have b2 : wa.cell? ⟨w.heap.size, 2, none⟩ = some (.slice Ap m cp) := by rw [blk_cell HWB.out]; rfl
 have hw := HW.out
 go_still_tail 11, (by kernel_rfl)
 clear hw
 rcases Nat.eq_zero_or_pos m with hm0 | hm0
 ·subst hm0
  have HMID : Hid (DoMid g v own rd xs bs (k + d) 0 (.slice Ap 0 cp) (.cells #[.bool false, .int .i64 (k : Int), .slice Ap 0 cp] 147) w wa.drew) := hide HST0.out
  go_wp2_with fail
  generalize wa.drew = wc at *
  clear h1 h3 f1 f3 b1 b2 HST HST0 HFA HWB
  obtain ⟨A1, c1, sh1, F1, B1, X1, L1, T1, K1, S1, P1⟩ := HMID.out
  have hcb : k + d ≤ c1 ∧ c1 ≤ 9223372036854775807 := by
   obtain ⟨_, _, e, q1, q2⟩ := B1.form
   injection e with _ q3 q4
   have := HN.out
   unfold maxLen at q2
   omega
  obtain ⟨hcb1, hcb2⟩ := hcb
  have HF1 := hide F1
  have HB1 := hide B1
  have HX1 := hide X1
  have HP1 := hide P1
  have HT1 := hide T1
  have HK1 := hide K1
  have HS1 := hide S1
  have HL1 := hide L1
  clear F1 B1 X1 P1 T1 K1 S1 L1 HMID
  have q1 := HF1.out.c1
  have q2 := HF1.out.fr 1
  have q3 : wc.cell? ⟨w.heap.size, 1, none⟩ = some (.int .i64 (k : Int)) := by rw [blk_cell HX1.out]; rfl
  have q4 : wc.cell? ⟨w.heap.size, 2, none⟩ = some (.slice Ap 0 cp) := by rw [blk_cell HX1.out]; rfl
  have hcut1 := fun (w : World) => run_cut_from (P := Tryz.prog) w A1 (k + d) c1 k 1 Tryz.underlying49 HI.out HZ1.out (by omega) hcb1
  have hcpy := fun (w : World) => run_copy_none (P := Tryz.prog) w 49 49 3 5 (cutA A1 k c1 1) Ap d (c1 - k) 0 cp Tryz.underlying49 (by kernel_rfl) (by simp)
  go_still_tail 11, (by kernel_rfl)
  go_wp2_with fail
  clear q1 q2 q3 q4 hcut1 hcpy
  have HF2 : Hid (FlB wc.drew g { v with vb := .slice A1 (k + d) c1, shared := sh1 }) := hide HF1.out
  have HB2 : Hid (BsAt wc.drew (ext own w wc) (.slice A1 (k + d) c1) xs) := hide HB1.out
  have HX2 : Hid (wc.drew.heap[w.heap.size]? = some (.cells #[.bool false, .int .i64 (k : Int), .slice Ap 0 cp] 147 (0, 0))) := hide HX1.out
  have HP2 : Hid (PAt wc.drew rd (.slice Ap 0 cp) bs) := hide HP1.out
  have HT2 : Hid (Turned (fun i => ext own w wc i ∧ Is8 wc i) wc wc.drew) := hide ((Turned.refl _ wc).drewN 1)
  have HK2 : Hid (Keeps wc wc.drew (.slice A1 (k + d) c1) xs.length sh1 (.slice A1 (k + d) c1) xs.length sh1) := hide (Keeps.same (gb_drew (gb_refl wc none)))
  have HY : Hid (xs ++ bs.drop 0 = zs ∧ xs.length + (bs.drop 0).length ≤ 1000000000) := hide ⟨by
   have := doW_parts (xs := xs) (bs := bs) (k := k) (o := 0) (by have := HM.out; have := HN.out; omega)
   rw [HZ.out, ← this]
   simp, by have := HLEN.out; simpa using this⟩
  generalize wc.drew = w2 at *
  have r1 := HF2.out.c1
  have r2 := HF2.out.fr 1
  have r4 : w2.cell? ⟨w.heap.size, 2, none⟩ = some (.slice Ap 0 cp) := by rw [blk_cell HX2.out]; rfl
  have hcut2 := fun (w : World) => run_cut_from (P := Tryz.prog) w Ap 0 cp 0 1 Tryz.underlying49 HI.out HZ1.out (by omega) hmc'
  have HRQ := hide (show Rd w2 w2.heap.size Ap (u8s (bs.drop 0)) from by
   obtain ⟨_, _, e, _, _, hr⟩ := HP2.out.rd
   injection e with e
   subst e
   exact hr)
  have HLQ := hide (show 0 = (bs.drop 0).length by rw [List.length_drop, ← HM.out]; all_goals omega)
  have HYL := hide HY.out.2
  go_region_law
   ((refine step_append_bs (xs := xs) (bs := bs.drop 0) (B := w2.heap.size) (by rfl) (.tmp 66) (.tmp 70) (by rfl) (by rfl) (by rfl) HB2.out HRQ.out HLQ.out HYL.out ?_; intro A3 n3 c3 w3 hn3 hb3 hg3 hk3; have HB3 : Hid (BsAt w3 (fun i => ext own w wc i ∨ i = w2.heap.size) (.slice A3 n3 c3) (xs ++ bs.drop 0)) := hide hb3; have HG3 : Hid (w2.grownBy w3 (if xs = [] then none else (Value.slice A1 (k + d) c1).ownBlock)) := hide ⟨hg3.os, hg3.tape, hg3.output, hg3.size, hg3.block⟩; have HK3 : Hid (∀ sh, Keeps w2 w3 (.slice A1 (k + d) c1) (xs).length sh (.slice A3 n3 c3) (xs ++ bs.drop 0).length sh) := hide (fun sh own vs xs hb hs => hk3 sh own vs xs hb hs); clear hn3 hb3 hg3 hk3; have HF3 := hide (keepB HB2.out HG3.out row_ok HF2.out (by decide)); have HX3 := hide (keepB HB2.out HG3.out row_ok HX2.out (by decide)); have s1 := FlB.c1 HF3.out; have s2 := FlB.fr HF3.out 1; have s5 : w3.cell? ⟨w.heap.size, 2, none⟩ = some (.slice Ap 0 cp) := by rw [blk_cell HX3.out]; rfl))
  all_goals go_wp2_with fail
  all_goals go_end0
  all_goals have hfin := DoMid.fin HT1.out HK1.out HT2.out HK2.out HF2.out HB2.out HB3.out HG3.out HK3.out 0
  all_goals rw [HY.out.1] at hfin
  all_goals exact hfin
 ·have hpos : (0 : Int) < (m : Int) := by omega
  cases hsh : v.shared
  ·rw [hsh] at h3
   have HSH := hide hsh
   clear hsh
   have HMID : Hid (DoMid g v own rd xs bs (k + d) m (.slice Ap m cp) (.cells #[.bool false, .int .i64 (k : Int), .slice Ap m cp] 147) w wa.drew) := hide (HST.out (fun _ => HSH.out))
   go_wp2_with fail
   generalize wa.drew = wc at *
   clear h1 h3 f1 f3 b1 b2 HST HST0 HFA HWB HSH
   obtain ⟨A1, c1, sh1, F1, B1, X1, L1, T1, K1, S1, P1⟩ := HMID.out
   have hcb : k + d ≤ c1 ∧ c1 ≤ 9223372036854775807 := by
    obtain ⟨_, _, e, q1, q2⟩ := B1.form
    injection e with _ q3 q4
    have := HN.out
    unfold maxLen at q2
    omega
   obtain ⟨hcb1, hcb2⟩ := hcb
   have HF1 := hide F1
   have HB1 := hide B1
   have HX1 := hide X1
   have HP1 := hide P1
   have HT1 := hide T1
   have HK1 := hide K1
   have HS1 := hide S1
   have HL1 := hide L1
   clear F1 B1 X1 P1 T1 K1 S1 L1 HMID
   have q1 := HF1.out.c1
   have q2 := HF1.out.fr 1
   have q3 : wc.cell? ⟨w.heap.size, 1, none⟩ = some (.int .i64 (k : Int)) := by rw [blk_cell HX1.out]; rfl
   have q4 : wc.cell? ⟨w.heap.size, 2, none⟩ = some (.slice Ap m cp) := by rw [blk_cell HX1.out]; rfl
   have hcut1 := fun (w : World) => run_cut_from (P := Tryz.prog) w A1 (k + d) c1 k 1 Tryz.underlying49 HI.out HZ1.out (by omega) hcb1
   have HA := hide (HB1.out.head (by have := HN.out; omega))
   obtain ⟨g1, hA1⟩ := HA.out
   have HRP := hide (show Rd wc wc.heap.size Ap (u8s (bs.take m)) from by
    obtain ⟨_, _, e, _, _, hr⟩ := HP1.out.rd
    injection e with e
    subst e
    have := hr.take m
    rwa [u8s_take] at this)
   have HA1 := hide hA1
   have HCA := hide (cutA_pos (k := k) (c := c1) hA1 (by omega))
   have HBG := hide (show BsAt wc (ext own w wc) (.slice (some ⟨g1, 0, none⟩) (k + d) c1) xs from by rw [← hA1]; exact HB1.out)
   have HTL := hide (show m = (bs.take m).length by rw [List.length_take]; have := HM.out; omega)
   have HKN := hide (show k + (bs.take m).length ≤ xs.length by rw [← HTL.out]; have := HN.out; omega)
   have HKP := hide (show 0 < (bs.take m).length by rw [← HTL.out]; omega)
   have HND := hide (show d = xs.length - k by have := HN.out; omega)
   have hsh2 : sh1 = false := HS1.out hm0
   subst hsh2
   clear hA1
   go_still_tail 11, (by kernel_rfl)
   go_wp2_with ((refine wpList_copy_bs (o := ⟨some 61, _, _, _, _, _⟩) rfl (.tmp 56) (.tmp 60) rfl rfl rfl HBG.out HN.out HCA.out HND.out HTL.out HRP.out HKN.out HKP.out ?_; intro z9 w2 hbb hgg hkk; have HBB := hide hbb; have HGG : Hid (wc.grownBy w2 (some g1)) := hide ⟨hgg.os, hgg.tape, hgg.output, hgg.size, hgg.block⟩; have HKK : Hid (Keeps wc w2 (.slice (some ⟨g1, 0, none⟩) (k + d) c1) (k + d) false (.slice (some ⟨g1, 0, none⟩) (k + d) c1) (k + d) false) := hide (fun own vs xs hb hs => hkk own vs xs hb hs); clear hbb hgg hkk))
   clear q1 q2 q3 q4 hcut1
   have HF2 : Hid (FlB w2 g { v with vb := .slice A1 (k + d) c1, shared := false }) := hide (keepB HBG.out HGG.out (.inr ⟨by have := HN.out; omega, rfl⟩) HF1.out (by decide))
   have HX2 : Hid (w2.heap[w.heap.size]? = some (.cells #[.bool false, .int .i64 (k : Int), .slice Ap m cp] 147 (0, 0))) := hide (keepB HBG.out HGG.out (.inr ⟨by have := HN.out; omega, rfl⟩) HX1.out (by decide))
   have HOG := hide (HBG.out.own (by have := HN.out; omega))
   have HP2 : Hid (PAt w2 rd (.slice Ap m cp) bs) := hide (HP1.out.keep fun i hi hlt => HGG.out.block i hlt (fun e => by
    injection e with e
    have h1 := HD.out i hi
    rcases HOG.out with h2 | h2
    ·exact h1.1 (by rw [e]; exact h2)
    ·omega))
   have HB2 : Hid (BsAt w2 (ext own w wc) (.slice A1 (k + d) c1) (xs.take k ++ bs.take m ++ xs.drop (k + m))) := hide (by rw [HA1.out]; have := HBB.out; rwa [← HTL.out] at this)
   have HT2 : Hid (Turned (fun i => ext own w wc i ∧ Is8 wc i) wc w2) := hide ((Turned.refl _ wc).trans (Turned.of_gb (M := fun i => i = g1) HGG.out (fun i e => by injection e with e; exact e.symm)) (fun i _ e => by rw [e]; exact ⟨HOG.out, Is8.of_bs HBG.out (by have := HN.out; omega)⟩))
   have HLY : Hid ((xs.take k ++ bs.take m ++ xs.drop (k + m)).length = k + d) := hide (by have := HN.out; have := HTL.out; simp at this ⊢; omega)
   have HK2 : Hid (Keeps wc w2 (.slice A1 (k + d) c1) xs.length false (.slice A1 (k + d) c1) (xs.take k ++ bs.take m ++ xs.drop (k + m)).length false) := hide (by rw [HLY.out, ← HN.out, HA1.out]; exact HKK.out)
   have HY : Hid ((xs.take k ++ bs.take m ++ xs.drop (k + m)) ++ bs.drop m = zs ∧ (xs.take k ++ bs.take m ++ xs.drop (k + m)).length + (bs.drop m).length ≤ 1000000000) := hide ⟨by
    rw [HZ.out]
    exact doW_parts (by have := HM.out; have := HN.out; omega), by rw [HLY.out, List.length_drop]; have := HLEN.out; have := HN.out; omega⟩
   generalize xs.take k ++ bs.take m ++ xs.drop (k + m) = ys at *
   clear HBB HKK HLY
   have r1 := HF2.out.c1
   have r2 := HF2.out.fr 1
   have r4 : w2.cell? ⟨w.heap.size, 2, none⟩ = some (.slice Ap m cp) := by rw [blk_cell HX2.out]; rfl
   have hcut2 := fun (w : World) => run_cut_from (P := Tryz.prog) w Ap m cp m 1 Tryz.underlying49 HI.out HZ1.out (by omega) hmc'
   have HRQ := hide (show Rd w2 w2.heap.size (cutA Ap m cp 1) (u8s (bs.drop m)) from by
    obtain ⟨_, _, e, _, _, hr⟩ := HP2.out.rd
    injection e with e
    subst e
    exact hr.cutA (by have := HM.out; omega) (by have := HM.out; omega))
   have HLQ := hide (show 0 = (bs.drop m).length by rw [List.length_drop, ← HM.out]; all_goals omega)
   have HYL := hide HY.out.2
   go_region_law
    ((refine step_append_bs (xs := ys) (bs := bs.drop m) (B := w2.heap.size) (by rfl) (.tmp 66) (.tmp 70) (by rfl) (by rfl) (by rfl) HB2.out HRQ.out HLQ.out HYL.out ?_; intro A3 n3 c3 w3 hn3 hb3 hg3 hk3; have HB3 : Hid (BsAt w3 (fun i => ext own w wc i ∨ i = w2.heap.size) (.slice A3 n3 c3) (ys ++ bs.drop m)) := hide hb3; have HG3 : Hid (w2.grownBy w3 (if ys = [] then none else (Value.slice A1 (k + d) c1).ownBlock)) := hide ⟨hg3.os, hg3.tape, hg3.output, hg3.size, hg3.block⟩; have HK3 : Hid (∀ sh, Keeps w2 w3 (.slice A1 (k + d) c1) (ys).length sh (.slice A3 n3 c3) (ys ++ bs.drop m).length sh) := hide (fun sh own vs xs hb hs => hk3 sh own vs xs hb hs); clear hn3 hb3 hg3 hk3; have HF3 := hide (keepB HB2.out HG3.out row_ok HF2.out (by decide)); have HX3 := hide (keepB HB2.out HG3.out row_ok HX2.out (by decide)); have s1 := FlB.c1 HF3.out; have s2 := FlB.fr HF3.out 1; have s5 : w3.cell? ⟨w.heap.size, 2, none⟩ = some (.slice Ap m cp) := by rw [blk_cell HX3.out]; rfl))
   all_goals go_wp2_with fail
   all_goals go_end0
   all_goals have hfin := DoMid.fin HT1.out HK1.out HT2.out HK2.out HF2.out HB2.out HB3.out HG3.out HK3.out 0
   all_goals rw [HY.out.1] at hfin
   all_goals exact hfin
  ·rw [hsh] at h3
   have HSH := hide hsh
   clear hsh
   have HMID0 : Hid (DoMid g v own rd xs bs (k + d) 0 (.slice Ap m cp) (.cells #[.bool false, .int .i64 (k : Int), .slice Ap m cp] 147) w wa.drew) := hide HST0.out
   have HRD := hide (show Rd wa.drew wa.drew.heap.size A (u8s xs) from by
    obtain ⟨A1, c1, sh1, F1, B1, _⟩ := HMID0.out
    have hF : FlB wa.drew g v := HFA.out
    have e : ({ v with vb := .slice A1 (k + d) c1, shared := sh1 } : FlV).cells = v.cells := by
     have h1 : wa.drew.heap[g]? = _ := F1
     have h2 : wa.drew.heap[g]? = _ := hF
     rw [h1] at h2
     injection h2 with h2
     injection h2
    have e2 : (Value.slice A1 (k + d) c1) = v.vb := by
     have := congrArg (fun a : Array Value => a[1]?) e
     simpa [FlV.cells] using this
    rw [HV.out] at e2
    injection e2 with e3 _ e4
    subst e3
    obtain ⟨_, _, e5, _, _, hr⟩ := B1.rd
    injection e5 with e5
    subst e5
    exact hr)
   have HFV : Hid (FlB wa.drew g { v with vb := .slice A (k + d) c, shared := true }) := hide (by
    have e : ({ v with vb := .slice A (k + d) c, shared := true } : FlV) = v := by rw [← HV.out, ← HSH.out]
    rw [e]
    exact HFA.out)
   have HXS : Hid (xs.length ≤ 1000000000) := hide (by have := HLEN.out; omega)
   have HWD : Hid (wa.drew.heap.size = wa.heap.size) := hide rfl
   go_wp2_with (go_at_call 76; (refine (clone8_any _ _ _ _ xs _ HRD.out HN.out (Nat.le_refl _) HXS.out).mono ?_); rintro e w1 ⟨A2, c2, rfl, hb1, hg1⟩; have HB9 := hide hb1; have HG9 := hide hg1; have HF9 : Hid (FlB w1 g { v with vb := .slice A (k + d) c, shared := true }) := hide (FlB.keep HFV.out (hg1.block g HFV.out.lt (by simp))); clear hb1 hg1; have h1' := HF9.out.c1; have h3' := HF9.out.c3; have f1' := HF9.out.fr 1; have f3' := HF9.out.fr 3)
   have HMID : Hid (DoMid g v own rd xs bs (k + d) m (.slice Ap m cp) (.cells #[.bool false, .int .i64 (k : Int), .slice Ap m cp] 147) w ((w1.setCell ⟨g, 1, none⟩ (.slice A2 (k + d) c2)).setCell ⟨g, 3, none⟩ (.bool false))) := hide (DoMid.cloned HMID0.out HB9.out HG9.out HF9.out hgw (by have := HN.out; omega))
   generalize (w1.setCell ⟨g, 1, none⟩ (.slice A2 (k + d) c2)).setCell ⟨g, 3, none⟩ (.bool false) = wc at *
   clear h1 h3 f1 f3 b1 b2 h1' h3' f1' f3' HWD HST HST0 HFA HWB HSH HRD HFV HXS HB9 HG9 HF9 HMID0
   obtain ⟨A1, c1, sh1, F1, B1, X1, L1, T1, K1, S1, P1⟩ := HMID.out
   have hcb : k + d ≤ c1 ∧ c1 ≤ 9223372036854775807 := by
    obtain ⟨_, _, e, q1, q2⟩ := B1.form
    injection e with _ q3 q4
    have := HN.out
    unfold maxLen at q2
    omega
   obtain ⟨hcb1, hcb2⟩ := hcb
   have HF1 := hide F1
   have HB1 := hide B1
   have HX1 := hide X1
   have HP1 := hide P1
   have HT1 := hide T1
   have HK1 := hide K1
   have HS1 := hide S1
   have HL1 := hide L1
   clear F1 B1 X1 P1 T1 K1 S1 L1 HMID
   have q1 := HF1.out.c1
   have q2 := HF1.out.fr 1
   have q3 : wc.cell? ⟨w.heap.size, 1, none⟩ = some (.int .i64 (k : Int)) := by rw [blk_cell HX1.out]; rfl
   have q4 : wc.cell? ⟨w.heap.size, 2, none⟩ = some (.slice Ap m cp) := by rw [blk_cell HX1.out]; rfl
   have hcut1 := fun (w : World) => run_cut_from (P := Tryz.prog) w A1 (k + d) c1 k 1 Tryz.underlying49 HI.out HZ1.out (by omega) hcb1
   have HA := hide (HB1.out.head (by have := HN.out; omega))
   obtain ⟨g1, hA1⟩ := HA.out
   have HRP := hide (show Rd wc wc.heap.size Ap (u8s (bs.take m)) from by
    obtain ⟨_, _, e, _, _, hr⟩ := HP1.out.rd
    injection e with e
    subst e
    have := hr.take m
    rwa [u8s_take] at this)
   have HA1 := hide hA1
   have HCA := hide (cutA_pos (k := k) (c := c1) hA1 (by omega))
   have HBG := hide (show BsAt wc (ext own w wc) (.slice (some ⟨g1, 0, none⟩) (k + d) c1) xs from by rw [← hA1]; exact HB1.out)
   have HTL := hide (show m = (bs.take m).length by rw [List.length_take]; have := HM.out; omega)
   have HKN := hide (show k + (bs.take m).length ≤ xs.length by rw [← HTL.out]; have := HN.out; omega)
   have HKP := hide (show 0 < (bs.take m).length by rw [← HTL.out]; omega)
   have HND := hide (show d = xs.length - k by have := HN.out; omega)
   have hsh2 : sh1 = false := HS1.out hm0
   subst hsh2
   clear hA1
   go_still_tail 11, (by kernel_rfl)
   go_wp2_with ((refine wpList_copy_bs (o := ⟨some 61, _, _, _, _, _⟩) rfl (.tmp 56) (.tmp 60) rfl rfl rfl HBG.out HN.out HCA.out HND.out HTL.out HRP.out HKN.out HKP.out ?_; intro z9 w2 hbb hgg hkk; have HBB := hide hbb; have HGG : Hid (wc.grownBy w2 (some g1)) := hide ⟨hgg.os, hgg.tape, hgg.output, hgg.size, hgg.block⟩; have HKK : Hid (Keeps wc w2 (.slice (some ⟨g1, 0, none⟩) (k + d) c1) (k + d) false (.slice (some ⟨g1, 0, none⟩) (k + d) c1) (k + d) false) := hide (fun own vs xs hb hs => hkk own vs xs hb hs); clear hbb hgg hkk))
   clear q1 q2 q3 q4 hcut1
   have HF2 : Hid (FlB w2 g { v with vb := .slice A1 (k + d) c1, shared := false }) := hide (keepB HBG.out HGG.out (.inr ⟨by have := HN.out; omega, rfl⟩) HF1.out (by decide))
   have HX2 : Hid (w2.heap[w.heap.size]? = some (.cells #[.bool false, .int .i64 (k : Int), .slice Ap m cp] 147 (0, 0))) := hide (keepB HBG.out HGG.out (.inr ⟨by have := HN.out; omega, rfl⟩) HX1.out (by decide))
   have HOG := hide (HBG.out.own (by have := HN.out; omega))
   have HP2 : Hid (PAt w2 rd (.slice Ap m cp) bs) := hide (HP1.out.keep fun i hi hlt => HGG.out.block i hlt (fun e => by
    injection e with e
    have h1 := HD.out i hi
    rcases HOG.out with h2 | h2
    ·exact h1.1 (by rw [e]; exact h2)
    ·omega))
   have HB2 : Hid (BsAt w2 (ext own w wc) (.slice A1 (k + d) c1) (xs.take k ++ bs.take m ++ xs.drop (k + m))) := hide (by rw [HA1.out]; have := HBB.out; rwa [← HTL.out] at this)
   have HT2 : Hid (Turned (fun i => ext own w wc i ∧ Is8 wc i) wc w2) := hide ((Turned.refl _ wc).trans (Turned.of_gb (M := fun i => i = g1) HGG.out (fun i e => by injection e with e; exact e.symm)) (fun i _ e => by rw [e]; exact ⟨HOG.out, Is8.of_bs HBG.out (by have := HN.out; omega)⟩))
   have HLY : Hid ((xs.take k ++ bs.take m ++ xs.drop (k + m)).length = k + d) := hide (by have := HN.out; have := HTL.out; simp at this ⊢; omega)
   have HK2 : Hid (Keeps wc w2 (.slice A1 (k + d) c1) xs.length false (.slice A1 (k + d) c1) (xs.take k ++ bs.take m ++ xs.drop (k + m)).length false) := hide (by rw [HLY.out, ← HN.out, HA1.out]; exact HKK.out)
   have HY : Hid ((xs.take k ++ bs.take m ++ xs.drop (k + m)) ++ bs.drop m = zs ∧ (xs.take k ++ bs.take m ++ xs.drop (k + m)).length + (bs.drop m).length ≤ 1000000000) := hide ⟨by
    rw [HZ.out]
    exact doW_parts (by have := HM.out; have := HN.out; omega), by rw [HLY.out, List.length_drop]; have := HLEN.out; have := HN.out; omega⟩
   generalize xs.take k ++ bs.take m ++ xs.drop (k + m) = ys at *
   clear HBB HKK HLY
   have r1 := HF2.out.c1
   have r2 := HF2.out.fr 1
   have r4 : w2.cell? ⟨w.heap.size, 2, none⟩ = some (.slice Ap m cp) := by rw [blk_cell HX2.out]; rfl
   have hcut2 := fun (w : World) => run_cut_from (P := Tryz.prog) w Ap m cp m 1 Tryz.underlying49 HI.out HZ1.out (by omega) hmc'
   have HRQ := hide (show Rd w2 w2.heap.size (cutA Ap m cp 1) (u8s (bs.drop m)) from by
    obtain ⟨_, _, e, _, _, hr⟩ := HP2.out.rd
    injection e with e
    subst e
    exact hr.cutA (by have := HM.out; omega) (by have := HM.out; omega))
   have HLQ := hide (show 0 = (bs.drop m).length by rw [List.length_drop, ← HM.out]; all_goals omega)
   have HYL := hide HY.out.2
   go_region_law
    ((refine step_append_bs (xs := ys) (bs := bs.drop m) (B := w2.heap.size) (by rfl) (.tmp 66) (.tmp 70) (by rfl) (by rfl) (by rfl) HB2.out HRQ.out HLQ.out HYL.out ?_; intro A3 n3 c3 w3 hn3 hb3 hg3 hk3; have HB3 : Hid (BsAt w3 (fun i => ext own w wc i ∨ i = w2.heap.size) (.slice A3 n3 c3) (ys ++ bs.drop m)) := hide hb3; have HG3 : Hid (w2.grownBy w3 (if ys = [] then none else (Value.slice A1 (k + d) c1).ownBlock)) := hide ⟨hg3.os, hg3.tape, hg3.output, hg3.size, hg3.block⟩; have HK3 : Hid (∀ sh, Keeps w2 w3 (.slice A1 (k + d) c1) (ys).length sh (.slice A3 n3 c3) (ys ++ bs.drop m).length sh) := hide (fun sh own vs xs hb hs => hk3 sh own vs xs hb hs); clear hn3 hb3 hg3 hk3; have HF3 := hide (keepB HB2.out HG3.out row_ok HF2.out (by decide)); have HX3 := hide (keepB HB2.out HG3.out row_ok HX2.out (by decide)); have s1 := FlB.c1 HF3.out; have s2 := FlB.fr HF3.out 1; have s5 : w3.cell? ⟨w.heap.size, 2, none⟩ = some (.slice Ap m cp) := by rw [blk_cell HX3.out]; rfl))
   all_goals go_wp2_with fail
   all_goals go_end0
   all_goals have hfin := DoMid.fin HT1.out HK1.out HT2.out HK2.out HF2.out HB2.out HB3.out HG3.out HK3.out 0
   all_goals rw [HY.out.1] at hfin
   all_goals exact hfin
end Go.Proofs.YtmcmlkglkpbnpaaGreat
namespace Go.Proofs.YtmcmlkglkpbnpaaGreat
open Go.RowKit
set_option maxHeartbeats 4000000 in
set_option maxRecDepth 100000 in
theorem do_putB (g : Nat) (v : FlV) (own rd : Nat → Prop) (xs bs zs : List UInt8) (k d m c cp : Nat) (A Ap : Option Addr) (w : World) (h : FlB w g v) (hb : BsAt w own v.vb xs) (hv : v.vb = .slice A (k + d) c) (hn : k + d = xs.length)
  (hp : PAt w rd (.slice Ap m cp) bs) (hm : m = bs.length) (hmd : d < m) (hdis : ∀ i, rd i → ¬ own i ∧ i < w.heap.size) (hlen : xs.length + bs.length ≤ 1000000000) (hz : zs = xs.take k ++ bs ++ xs.drop (k + bs.length)) :
  Calls Tryz.prog 69 #[.pointer (some ⟨g, 0, none⟩), .agg #[.bool false, .int .i64 (k : Int), .slice Ap m cp]] w (DoPost g v own xs zs w) := by
 obtain ⟨_, _, e, hnc, hc⟩ := hb.form
 rw [hv] at e
 injection e with e1 e2 e3
 subst e1; subst e3
 obtain ⟨_, _, e, hmc, hcp⟩ := hp.form
 injection e with e4 e5 e6
 subst e4; subst e6
 unfold maxLen at hc hcp
 have hst := fun ho => DoMid.start (o := d) (O := .cells #[.bool false, .int .i64 (k : Int), .slice Ap m cp] 147) h hv hb hp ho 1
 have hst0 := DoMid.start (o := 0) (O := .cells #[.bool false, .int .i64 (k : Int), .slice Ap m cp] 147) h hv hb hp (fun h => absurd h (Nat.lt_irrefl _)) 1
 have hkc : k + d ≤ c := by omega
 have hmc' : m ≤ cp := by omega
 have hgw := h.lt
 have H0 := hide h
 have HV := hide hv
 have HN := hide hn
 have HM := hide hm
 have HZ := hide hz
 have HST := hide hst
 have HST0 := hide hst0
 have HD := hide hdis
 have hw : IntKind.i64.wrap ((k : Int) + (d : Int) - (k : Int)) = (d : Int) := by
  rw [show (k : Int) + (d : Int) - (k : Int) = d by omega]
  exact IntWalk.i64_in _ (by omega)
 have HW := hide hw
 have hwb := heap_alloc_new w (.cells #[.bool false, .int .i64 (k : Int), .slice Ap m cp] 147)
 have HWB := hide hwb
 have hfa := h.alloc (.cells #[.bool false, .int .i64 (k : Int), .slice Ap m cp] 147)
 have HFA := hide hfa
 have hmd' : (d : Int) < (m : Int) := by omega
 have hmd2 : ¬ ((m : Int) ≤ (d : Int)) := by omega
 have hmd3 : ¬ (m ≤ d) := by omega
 have hdc : d ≤ cp := by omega
 have HLEN : Hid (xs.length + bs.length ≤ 1000000000) := hide hlen
 obtain ⟨i0, hi, hz0, hz1, hz2⟩ := info_parts Tryz.info8
 have HI := hide hi
 have HZ1 := hide hz1
 clear h hb hv hn hp hm hst hst0 hdis hw e2 e5 hwb hfa hz hlen hi hz0 hz1 hz2
 go_enter Tryz.func69, Tryz.ntmps69
 go_wp2
 generalize hwa : w.alloc (.cells #[.bool false, .int .i64 (k : Int), .slice Ap m cp] 147) = wa at *
 clear hwa
 have h1 := HFA.out.c1
 have h3 := HFA.out.c3
 have f1 := HFA.out.fr 1
 have f3 := HFA.out.fr 3
 rw [HV.out] at h1
 have b1 : wa.cell? ⟨w.heap.size, 1, none⟩ = some (.int .i64 (k : Int)) := by rw [blk_cell HWB.out]; rfl
 have b2 : wa.cell? ⟨w.heap.size, 2, none⟩ = some (.slice Ap m cp) := by rw [blk_cell HWB.out]; rfl
 have hw := HW.out
 go_still_tail 11, (by kernel_rfl)
 clear hw
 rcases Nat.eq_zero_or_pos d with hm0 | hm0
 ·subst hm0
  have HMID : Hid (DoMid g v own rd xs bs (k) 0 (.slice Ap m cp) (.cells #[.bool false, .int .i64 (k : Int), .slice Ap m cp] 147) w wa.drew) := hide HST0.out
  go_wp2_with fail
  generalize wa.drew = wc at *
  clear h1 h3 f1 f3 b1 b2 HST HST0 HFA HWB
  obtain ⟨A1, c1, sh1, F1, B1, X1, L1, T1, K1, S1, P1⟩ := HMID.out
  have hcb : k ≤ c1 ∧ c1 ≤ 9223372036854775807 := by
   obtain ⟨_, _, e, q1, q2⟩ := B1.form
   injection e with _ q3 q4
   have := HN.out
   unfold maxLen at q2
   omega
  obtain ⟨hcb1, hcb2⟩ := hcb
  have HF1 := hide F1
  have HB1 := hide B1
  have HX1 := hide X1
  have HP1 := hide P1
  have HT1 := hide T1
  have HK1 := hide K1
  have HS1 := hide S1
  have HL1 := hide L1
  clear F1 B1 X1 P1 T1 K1 S1 L1 HMID
  have q1 := HF1.out.c1
  have q2 := HF1.out.fr 1
  have q3 : wc.cell? ⟨w.heap.size, 1, none⟩ = some (.int .i64 (k : Int)) := by rw [blk_cell HX1.out]; rfl
  have q4 : wc.cell? ⟨w.heap.size, 2, none⟩ = some (.slice Ap m cp) := by rw [blk_cell HX1.out]; rfl
  have hcut1 := fun (w : World) => run_cut_from (P := Tryz.prog) w A1 (k) c1 k 1 Tryz.underlying49 HI.out HZ1.out (by omega) hcb1
  have hcpy := fun (w : World) => run_copy_none (P := Tryz.prog) w 49 49 3 5 (cutA A1 k c1 1) Ap 0 (c1 - k) 0 cp Tryz.underlying49 (by kernel_rfl) (by simp)
  go_still_tail 11, (by kernel_rfl)
  go_wp2_with fail
  clear q1 q2 q3 q4 hcut1 hcpy
  have HF2 : Hid (FlB wc.drew g { v with vb := .slice A1 (k) c1, shared := sh1 }) := hide HF1.out
  have HB2 : Hid (BsAt wc.drew (ext own w wc) (.slice A1 (k) c1) xs) := hide HB1.out
  have HX2 : Hid (wc.drew.heap[w.heap.size]? = some (.cells #[.bool false, .int .i64 (k : Int), .slice Ap m cp] 147 (0, 0))) := hide HX1.out
  have HP2 : Hid (PAt wc.drew rd (.slice Ap m cp) bs) := hide HP1.out
  have HT2 : Hid (Turned (fun i => ext own w wc i ∧ Is8 wc i) wc wc.drew) := hide ((Turned.refl _ wc).drewN 1)
  have HK2 : Hid (Keeps wc wc.drew (.slice A1 (k) c1) xs.length sh1 (.slice A1 (k) c1) xs.length sh1) := hide (Keeps.same (gb_drew (gb_refl wc none)))
  have HY : Hid (xs ++ bs.drop 0 = zs ∧ xs.length + (bs.drop 0).length ≤ 1000000000) := hide ⟨by
   have := doW_parts (xs := xs) (bs := bs) (k := k) (o := 0) (by have := HM.out; have := HN.out; omega)
   rw [HZ.out, ← this]
   simp, by have := HLEN.out; simpa using this⟩
  generalize wc.drew = w2 at *
  have r1 := HF2.out.c1
  have r2 := HF2.out.fr 1
  have r4 : w2.cell? ⟨w.heap.size, 2, none⟩ = some (.slice Ap m cp) := by rw [blk_cell HX2.out]; rfl
  have hcut2 := fun (w : World) => run_cut_from (P := Tryz.prog) w Ap m cp 0 1 Tryz.underlying49 HI.out HZ1.out (by omega) hmc'
  have HRQ := hide (show Rd w2 w2.heap.size Ap (u8s (bs.drop 0)) from by
   obtain ⟨_, _, e, _, _, hr⟩ := HP2.out.rd
   injection e with e
   subst e
   exact hr)
  have HLQ := hide (show m = (bs.drop 0).length by rw [List.length_drop, ← HM.out]; all_goals omega)
  have HYL := hide HY.out.2
  go_region_law
   ((refine step_append_bs (xs := xs) (bs := bs.drop 0) (B := w2.heap.size) (by rfl) (.tmp 66) (.tmp 70) (by rfl) (by rfl) (by rfl) HB2.out HRQ.out HLQ.out HYL.out ?_; intro A3 n3 c3 w3 hn3 hb3 hg3 hk3; have HB3 : Hid (BsAt w3 (fun i => ext own w wc i ∨ i = w2.heap.size) (.slice A3 n3 c3) (xs ++ bs.drop 0)) := hide hb3; have HG3 : Hid (w2.grownBy w3 (if xs = [] then none else (Value.slice A1 (k) c1).ownBlock)) := hide ⟨hg3.os, hg3.tape, hg3.output, hg3.size, hg3.block⟩; have HK3 : Hid (∀ sh, Keeps w2 w3 (.slice A1 (k) c1) (xs).length sh (.slice A3 n3 c3) (xs ++ bs.drop 0).length sh) := hide (fun sh own vs xs hb hs => hk3 sh own vs xs hb hs); clear hn3 hb3 hg3 hk3; have HF3 := hide (keepB HB2.out HG3.out row_ok HF2.out (by decide)); have HX3 := hide (keepB HB2.out HG3.out row_ok HX2.out (by decide)); have s1 := FlB.c1 HF3.out; have s2 := FlB.fr HF3.out 1; have s5 : w3.cell? ⟨w.heap.size, 2, none⟩ = some (.slice Ap m cp) := by rw [blk_cell HX3.out]; rfl))
  all_goals go_wp2_with fail
  all_goals go_end0
  all_goals have hfin := DoMid.fin HT1.out HK1.out HT2.out HK2.out HF2.out HB2.out HB3.out HG3.out HK3.out 0
  all_goals rw [HY.out.1] at hfin
  all_goals exact hfin
 ·have hpos : (0 : Int) < (d : Int) := by omega
  cases hsh : v.shared
  ·rw [hsh] at h3
   have HSH := hide hsh
   clear hsh
   have HMID : Hid (DoMid g v own rd xs bs (k + d) d (.slice Ap m cp) (.cells #[.bool false, .int .i64 (k : Int), .slice Ap m cp] 147) w wa.drew) := hide (HST.out (fun _ => HSH.out))
   go_wp2_with fail
   generalize wa.drew = wc at *
   clear h1 h3 f1 f3 b1 b2 HST HST0 HFA HWB HSH
   obtain ⟨A1, c1, sh1, F1, B1, X1, L1, T1, K1, S1, P1⟩ := HMID.out
   have hcb : k + d ≤ c1 ∧ c1 ≤ 9223372036854775807 := by
    obtain ⟨_, _, e, q1, q2⟩ := B1.form
    injection e with _ q3 q4
    have := HN.out
    unfold maxLen at q2
    omega
   obtain ⟨hcb1, hcb2⟩ := hcb
   have HF1 := hide F1
   have HB1 := hide B1
   have HX1 := hide X1
   have HP1 := hide P1
   have HT1 := hide T1
   have HK1 := hide K1
   have HS1 := hide S1
   have HL1 := hide L1
   clear F1 B1 X1 P1 T1 K1 S1 L1 HMID
   have q1 := HF1.out.c1
   have q2 := HF1.out.fr 1
   have q3 : wc.cell? ⟨w.heap.size, 1, none⟩ = some (.int .i64 (k : Int)) := by rw [blk_cell HX1.out]; rfl
   have q4 : wc.cell? ⟨w.heap.size, 2, none⟩ = some (.slice Ap m cp) := by rw [blk_cell HX1.out]; rfl
   have hcut1 := fun (w : World) => run_cut_from (P := Tryz.prog) w A1 (k + d) c1 k 1 Tryz.underlying49 HI.out HZ1.out (by omega) hcb1
   have HA := hide (HB1.out.head (by have := HN.out; omega))
   obtain ⟨g1, hA1⟩ := HA.out
   have HRP := hide (show Rd wc wc.heap.size Ap (u8s (bs.take d)) from by
    obtain ⟨_, _, e, _, _, hr⟩ := HP1.out.rd
    injection e with e
    subst e
    have := hr.take d
    rwa [u8s_take] at this)
   have HA1 := hide hA1
   have HCA := hide (cutA_pos (k := k) (c := c1) hA1 (by omega))
   have HBG := hide (show BsAt wc (ext own w wc) (.slice (some ⟨g1, 0, none⟩) (k + d) c1) xs from by rw [← hA1]; exact HB1.out)
   have HTL := hide (show d = (bs.take d).length by rw [List.length_take]; have := HM.out; omega)
   have HKN := hide (show k + (bs.take d).length ≤ xs.length by rw [← HTL.out]; have := HN.out; omega)
   have HKP := hide (show 0 < (bs.take d).length by rw [← HTL.out]; omega)
   have HND := hide (show d = xs.length - k by have := HN.out; omega)
   have hsh2 : sh1 = false := HS1.out hm0
   subst hsh2
   clear hA1
   go_still_tail 11, (by kernel_rfl)
   go_wp2_with ((refine wpList_copy_bs (o := ⟨some 61, _, _, _, _, _⟩) rfl (.tmp 56) (.tmp 60) rfl rfl rfl HBG.out HN.out HCA.out HND.out HTL.out HRP.out HKN.out HKP.out ?_; intro z9 w2 hbb hgg hkk; have HBB := hide hbb; have HGG : Hid (wc.grownBy w2 (some g1)) := hide ⟨hgg.os, hgg.tape, hgg.output, hgg.size, hgg.block⟩; have HKK : Hid (Keeps wc w2 (.slice (some ⟨g1, 0, none⟩) (k + d) c1) (k + d) false (.slice (some ⟨g1, 0, none⟩) (k + d) c1) (k + d) false) := hide (fun own vs xs hb hs => hkk own vs xs hb hs); clear hbb hgg hkk))
   clear q1 q2 q3 q4 hcut1
   have HF2 : Hid (FlB w2 g { v with vb := .slice A1 (k + d) c1, shared := false }) := hide (keepB HBG.out HGG.out (.inr ⟨by have := HN.out; omega, rfl⟩) HF1.out (by decide))
   have HX2 : Hid (w2.heap[w.heap.size]? = some (.cells #[.bool false, .int .i64 (k : Int), .slice Ap m cp] 147 (0, 0))) := hide (keepB HBG.out HGG.out (.inr ⟨by have := HN.out; omega, rfl⟩) HX1.out (by decide))
   have HOG := hide (HBG.out.own (by have := HN.out; omega))
   have HP2 : Hid (PAt w2 rd (.slice Ap m cp) bs) := hide (HP1.out.keep fun i hi hlt => HGG.out.block i hlt (fun e => by
    injection e with e
    have h1 := HD.out i hi
    rcases HOG.out with h2 | h2
    ·exact h1.1 (by rw [e]; exact h2)
    ·omega))
   have HB2 : Hid (BsAt w2 (ext own w wc) (.slice A1 (k + d) c1) (xs.take k ++ bs.take d ++ xs.drop (k + d))) := hide (by rw [HA1.out]; have := HBB.out; rwa [← HTL.out] at this)
   have HT2 : Hid (Turned (fun i => ext own w wc i ∧ Is8 wc i) wc w2) := hide ((Turned.refl _ wc).trans (Turned.of_gb (M := fun i => i = g1) HGG.out (fun i e => by injection e with e; exact e.symm)) (fun i _ e => by rw [e]; exact ⟨HOG.out, Is8.of_bs HBG.out (by have := HN.out; omega)⟩))
   have HLY : Hid ((xs.take k ++ bs.take d ++ xs.drop (k + d)).length = k + d) := hide (by have := HN.out; have := HTL.out; simp at this ⊢; omega)
   have HK2 : Hid (Keeps wc w2 (.slice A1 (k + d) c1) xs.length false (.slice A1 (k + d) c1) (xs.take k ++ bs.take d ++ xs.drop (k + d)).length false) := hide (by rw [HLY.out, ← HN.out, HA1.out]; exact HKK.out)
   have HY : Hid ((xs.take k ++ bs.take d ++ xs.drop (k + d)) ++ bs.drop d = zs ∧ (xs.take k ++ bs.take d ++ xs.drop (k + d)).length + (bs.drop d).length ≤ 1000000000) := hide ⟨by
    rw [HZ.out]
    exact doW_parts (by have := HM.out; have := HN.out; omega), by rw [HLY.out, List.length_drop]; have := HLEN.out; have := HN.out; omega⟩
   generalize xs.take k ++ bs.take d ++ xs.drop (k + d) = ys at *
   clear HBB HKK HLY
   have r1 := HF2.out.c1
   have r2 := HF2.out.fr 1
   have r4 : w2.cell? ⟨w.heap.size, 2, none⟩ = some (.slice Ap m cp) := by rw [blk_cell HX2.out]; rfl
   have hcut2 := fun (w : World) => run_cut_from (P := Tryz.prog) w Ap m cp d 1 Tryz.underlying49 HI.out HZ1.out (by omega) hmc'
   have HRQ := hide (show Rd w2 w2.heap.size (cutA Ap d cp 1) (u8s (bs.drop d)) from by
    obtain ⟨_, _, e, _, _, hr⟩ := HP2.out.rd
    injection e with e
    subst e
    exact hr.cutA (by have := HM.out; omega) (by have := HM.out; omega))
   have HLQ := hide (show m - d = (bs.drop d).length by rw [List.length_drop, ← HM.out]; all_goals omega)
   have HYL := hide HY.out.2
   go_region_law
    ((refine step_append_bs (xs := ys) (bs := bs.drop d) (B := w2.heap.size) (by rfl) (.tmp 66) (.tmp 70) (by rfl) (by rfl) (by rfl) HB2.out HRQ.out HLQ.out HYL.out ?_; intro A3 n3 c3 w3 hn3 hb3 hg3 hk3; have HB3 : Hid (BsAt w3 (fun i => ext own w wc i ∨ i = w2.heap.size) (.slice A3 n3 c3) (ys ++ bs.drop d)) := hide hb3; have HG3 : Hid (w2.grownBy w3 (if ys = [] then none else (Value.slice A1 (k + d) c1).ownBlock)) := hide ⟨hg3.os, hg3.tape, hg3.output, hg3.size, hg3.block⟩; have HK3 : Hid (∀ sh, Keeps w2 w3 (.slice A1 (k + d) c1) (ys).length sh (.slice A3 n3 c3) (ys ++ bs.drop d).length sh) := hide (fun sh own vs xs hb hs => hk3 sh own vs xs hb hs); clear hn3 hb3 hg3 hk3; have HF3 := hide (keepB HB2.out HG3.out row_ok HF2.out (by decide)); have HX3 := hide (keepB HB2.out HG3.out row_ok HX2.out (by decide)); have s1 := FlB.c1 HF3.out; have s2 := FlB.fr HF3.out 1; have s5 : w3.cell? ⟨w.heap.size, 2, none⟩ = some (.slice Ap m cp) := by rw [blk_cell HX3.out]; rfl))
   all_goals go_wp2_with fail
   all_goals go_end0
   all_goals have hfin := DoMid.fin HT1.out HK1.out HT2.out HK2.out HF2.out HB2.out HB3.out HG3.out HK3.out 0
   all_goals rw [HY.out.1] at hfin
   all_goals exact hfin
  ·rw [hsh] at h3
   have HSH := hide hsh
   clear hsh
   have HMID0 : Hid (DoMid g v own rd xs bs (k + d) 0 (.slice Ap m cp) (.cells #[.bool false, .int .i64 (k : Int), .slice Ap m cp] 147) w wa.drew) := hide HST0.out
   have HRD := hide (show Rd wa.drew wa.drew.heap.size A (u8s xs) from by
    obtain ⟨A1, c1, sh1, F1, B1, _⟩ := HMID0.out
    have hF : FlB wa.drew g v := HFA.out
    have e : ({ v with vb := .slice A1 (k + d) c1, shared := sh1 } : FlV).cells = v.cells := by
     have h1 : wa.drew.heap[g]? = _ := F1
     have h2 : wa.drew.heap[g]? = _ := hF
     rw [h1] at h2
     injection h2 with h2
     injection h2
    have e2 : (Value.slice A1 (k + d) c1) = v.vb := by
     have := congrArg (fun a : Array Value => a[1]?) e
     simpa [FlV.cells] using this
    rw [HV.out] at e2
    injection e2 with e3 _ e4
    subst e3
    obtain ⟨_, _, e5, _, _, hr⟩ := B1.rd
    injection e5 with e5
    subst e5
    exact hr)
   have HFV : Hid (FlB wa.drew g { v with vb := .slice A (k + d) c, shared := true }) := hide (by
    have e : ({ v with vb := .slice A (k + d) c, shared := true } : FlV) = v := by rw [← HV.out, ← HSH.out]
    rw [e]
    exact HFA.out)
   have HXS : Hid (xs.length ≤ 1000000000) := hide (by have := HLEN.out; omega)
   have HWD : Hid (wa.drew.heap.size = wa.heap.size) := hide rfl
   go_wp2_with (go_at_call 76; (refine (clone8_any _ _ _ _ xs _ HRD.out HN.out (Nat.le_refl _) HXS.out).mono ?_); rintro e w1 ⟨A2, c2, rfl, hb1, hg1⟩; have HB9 := hide hb1; have HG9 := hide hg1; have HF9 : Hid (FlB w1 g { v with vb := .slice A (k + d) c, shared := true }) := hide (FlB.keep HFV.out (hg1.block g HFV.out.lt (by simp))); clear hb1 hg1; have h1' := HF9.out.c1; have h3' := HF9.out.c3; have f1' := HF9.out.fr 1; have f3' := HF9.out.fr 3)
   have HMID : Hid (DoMid g v own rd xs bs (k + d) d (.slice Ap m cp) (.cells #[.bool false, .int .i64 (k : Int), .slice Ap m cp] 147) w ((w1.setCell ⟨g, 1, none⟩ (.slice A2 (k + d) c2)).setCell ⟨g, 3, none⟩ (.bool false))) := hide (DoMid.cloned HMID0.out HB9.out HG9.out HF9.out hgw (by have := HN.out; omega))
   generalize (w1.setCell ⟨g, 1, none⟩ (.slice A2 (k + d) c2)).setCell ⟨g, 3, none⟩ (.bool false) = wc at *
   clear h1 h3 f1 f3 b1 b2 h1' h3' f1' f3' HWD HST HST0 HFA HWB HSH HRD HFV HXS HB9 HG9 HF9 HMID0
   obtain ⟨A1, c1, sh1, F1, B1, X1, L1, T1, K1, S1, P1⟩ := HMID.out
   have hcb : k + d ≤ c1 ∧ c1 ≤ 9223372036854775807 := by
    obtain ⟨_, _, e, q1, q2⟩ := B1.form
    injection e with _ q3 q4
    have := HN.out
    unfold maxLen at q2
    omega
   obtain ⟨hcb1, hcb2⟩ := hcb
   have HF1 := hide F1
   have HB1 := hide B1
   have HX1 := hide X1
   have HP1 := hide P1
   have HT1 := hide T1
   have HK1 := hide K1
   have HS1 := hide S1
   have HL1 := hide L1
   clear F1 B1 X1 P1 T1 K1 S1 L1 HMID
   have q1 := HF1.out.c1
   have q2 := HF1.out.fr 1
   have q3 : wc.cell? ⟨w.heap.size, 1, none⟩ = some (.int .i64 (k : Int)) := by rw [blk_cell HX1.out]; rfl
   have q4 : wc.cell? ⟨w.heap.size, 2, none⟩ = some (.slice Ap m cp) := by rw [blk_cell HX1.out]; rfl
   have hcut1 := fun (w : World) => run_cut_from (P := Tryz.prog) w A1 (k + d) c1 k 1 Tryz.underlying49 HI.out HZ1.out (by omega) hcb1
   have HA := hide (HB1.out.head (by have := HN.out; omega))
   obtain ⟨g1, hA1⟩ := HA.out
   have HRP := hide (show Rd wc wc.heap.size Ap (u8s (bs.take d)) from by
    obtain ⟨_, _, e, _, _, hr⟩ := HP1.out.rd
    injection e with e
    subst e
    have := hr.take d
    rwa [u8s_take] at this)
   have HA1 := hide hA1
   have HCA := hide (cutA_pos (k := k) (c := c1) hA1 (by omega))
   have HBG := hide (show BsAt wc (ext own w wc) (.slice (some ⟨g1, 0, none⟩) (k + d) c1) xs from by rw [← hA1]; exact HB1.out)
   have HTL := hide (show d = (bs.take d).length by rw [List.length_take]; have := HM.out; omega)
   have HKN := hide (show k + (bs.take d).length ≤ xs.length by rw [← HTL.out]; have := HN.out; omega)
   have HKP := hide (show 0 < (bs.take d).length by rw [← HTL.out]; omega)
   have HND := hide (show d = xs.length - k by have := HN.out; omega)
   have hsh2 : sh1 = false := HS1.out hm0
   subst hsh2
   clear hA1
   go_still_tail 11, (by kernel_rfl)
   go_wp2_with ((refine wpList_copy_bs (o := ⟨some 61, _, _, _, _, _⟩) rfl (.tmp 56) (.tmp 60) rfl rfl rfl HBG.out HN.out HCA.out HND.out HTL.out HRP.out HKN.out HKP.out ?_; intro z9 w2 hbb hgg hkk; have HBB := hide hbb; have HGG : Hid (wc.grownBy w2 (some g1)) := hide ⟨hgg.os, hgg.tape, hgg.output, hgg.size, hgg.block⟩; have HKK : Hid (Keeps wc w2 (.slice (some ⟨g1, 0, none⟩) (k + d) c1) (k + d) false (.slice (some ⟨g1, 0, none⟩) (k + d) c1) (k + d) false) := hide (fun own vs xs hb hs => hkk own vs xs hb hs); clear hbb hgg hkk))
   clear q1 q2 q3 q4 hcut1
   have HF2 : Hid (FlB w2 g { v with vb := .slice A1 (k + d) c1, shared := false }) := hide (keepB HBG.out HGG.out (.inr ⟨by have := HN.out; omega, rfl⟩) HF1.out (by decide))
   have HX2 : Hid (w2.heap[w.heap.size]? = some (.cells #[.bool false, .int .i64 (k : Int), .slice Ap m cp] 147 (0, 0))) := hide (keepB HBG.out HGG.out (.inr ⟨by have := HN.out; omega, rfl⟩) HX1.out (by decide))
   have HOG := hide (HBG.out.own (by have := HN.out; omega))
   have HP2 : Hid (PAt w2 rd (.slice Ap m cp) bs) := hide (HP1.out.keep fun i hi hlt => HGG.out.block i hlt (fun e => by
    injection e with e
    have h1 := HD.out i hi
    rcases HOG.out with h2 | h2
    ·exact h1.1 (by rw [e]; exact h2)
    ·omega))
   have HB2 : Hid (BsAt w2 (ext own w wc) (.slice A1 (k + d) c1) (xs.take k ++ bs.take d ++ xs.drop (k + d))) := hide (by rw [HA1.out]; have := HBB.out; rwa [← HTL.out] at this)
   have HT2 : Hid (Turned (fun i => ext own w wc i ∧ Is8 wc i) wc w2) := hide ((Turned.refl _ wc).trans (Turned.of_gb (M := fun i => i = g1) HGG.out (fun i e => by injection e with e; exact e.symm)) (fun i _ e => by rw [e]; exact ⟨HOG.out, Is8.of_bs HBG.out (by have := HN.out; omega)⟩))
   have HLY : Hid ((xs.take k ++ bs.take d ++ xs.drop (k + d)).length = k + d) := hide (by have := HN.out; have := HTL.out; simp at this ⊢; omega)
   have HK2 : Hid (Keeps wc w2 (.slice A1 (k + d) c1) xs.length false (.slice A1 (k + d) c1) (xs.take k ++ bs.take d ++ xs.drop (k + d)).length false) := hide (by rw [HLY.out, ← HN.out, HA1.out]; exact HKK.out)
   have HY : Hid ((xs.take k ++ bs.take d ++ xs.drop (k + d)) ++ bs.drop d = zs ∧ (xs.take k ++ bs.take d ++ xs.drop (k + d)).length + (bs.drop d).length ≤ 1000000000) := hide ⟨by
    rw [HZ.out]
    exact doW_parts (by have := HM.out; have := HN.out; omega), by rw [HLY.out, List.length_drop]; have := HLEN.out; have := HN.out; omega⟩
   generalize xs.take k ++ bs.take d ++ xs.drop (k + d) = ys at *
   clear HBB HKK HLY
   have r1 := HF2.out.c1
   have r2 := HF2.out.fr 1
   have r4 : w2.cell? ⟨w.heap.size, 2, none⟩ = some (.slice Ap m cp) := by rw [blk_cell HX2.out]; rfl
   have hcut2 := fun (w : World) => run_cut_from (P := Tryz.prog) w Ap m cp d 1 Tryz.underlying49 HI.out HZ1.out (by omega) hmc'
   have HRQ := hide (show Rd w2 w2.heap.size (cutA Ap d cp 1) (u8s (bs.drop d)) from by
    obtain ⟨_, _, e, _, _, hr⟩ := HP2.out.rd
    injection e with e
    subst e
    exact hr.cutA (by have := HM.out; omega) (by have := HM.out; omega))
   have HLQ := hide (show m - d = (bs.drop d).length by rw [List.length_drop, ← HM.out]; all_goals omega)
   have HYL := hide HY.out.2
   go_region_law
    ((refine step_append_bs (xs := ys) (bs := bs.drop d) (B := w2.heap.size) (by rfl) (.tmp 66) (.tmp 70) (by rfl) (by rfl) (by rfl) HB2.out HRQ.out HLQ.out HYL.out ?_; intro A3 n3 c3 w3 hn3 hb3 hg3 hk3; have HB3 : Hid (BsAt w3 (fun i => ext own w wc i ∨ i = w2.heap.size) (.slice A3 n3 c3) (ys ++ bs.drop d)) := hide hb3; have HG3 : Hid (w2.grownBy w3 (if ys = [] then none else (Value.slice A1 (k + d) c1).ownBlock)) := hide ⟨hg3.os, hg3.tape, hg3.output, hg3.size, hg3.block⟩; have HK3 : Hid (∀ sh, Keeps w2 w3 (.slice A1 (k + d) c1) (ys).length sh (.slice A3 n3 c3) (ys ++ bs.drop d).length sh) := hide (fun sh own vs xs hb hs => hk3 sh own vs xs hb hs); clear hn3 hb3 hg3 hk3; have HF3 := hide (keepB HB2.out HG3.out row_ok HF2.out (by decide)); have HX3 := hide (keepB HB2.out HG3.out row_ok HX2.out (by decide)); have s1 := FlB.c1 HF3.out; have s2 := FlB.fr HF3.out 1; have s5 : w3.cell? ⟨w.heap.size, 2, none⟩ = some (.slice Ap m cp) := by rw [blk_cell HX3.out]; rfl))
   all_goals go_wp2_with fail
   all_goals go_end0
   all_goals have hfin := DoMid.fin HT1.out HK1.out HT2.out HK2.out HF2.out HB2.out HB3.out HG3.out HK3.out 0
   all_goals rw [HY.out.1] at hfin
   all_goals exact hfin
end Go.Proofs.YtmcmlkglkpbnpaaGreat
namespace Go.Proofs.YtmcmlkglkpbnpaaGreat
open Go.RowKit
theorem BsAt.none_ {w : World} {own : Nat → Prop} : BsAt w own (.slice none 0 0) [] := .inl ⟨rfl, _, rfl⟩
theorem do_any (g : Nat) (v : FlV) (own rd : Nat → Prop) (xs : List UInt8) (x : Wr) (vp : Value) (w : World) (h : FlB w g v) (hb : BsAt w own v.vb xs) (hp : PAt w rd vp x.p) (hk : x.pos ≤ xs.length)
  (hdis : ∀ i, rd i → ¬ own i ∧ i < w.heap.size) (hlen : xs.length + x.p.length ≤ 1000000000) :
  Calls Tryz.prog 69 #[.pointer (some ⟨g, 0, none⟩), .agg #[.bool x.cut, .int .i64 (x.pos : Int), vp]] w (DoPost g v own xs (doW xs x) w) := by
 obtain ⟨cut, k, p⟩ := x
 cases cut
 ·obtain ⟨A, c, hv, _⟩ := hb.form
  obtain ⟨Ap, cp, hvp, _⟩ := hp.form
  subst hvp
  have hk' : k ≤ xs.length := hk
  have hn : k + (xs.length - k) = xs.length := by omega
  rw [← hn] at hv
  by_cases hmd : p.length ≤ xs.length - k
  ·exact do_putA g v own rd xs p _ k (xs.length - k) p.length c cp A Ap w h hb hv hn hp rfl hmd hdis hlen rfl
  ·exact do_putB g v own rd xs p _ k (xs.length - k) p.length c cp A Ap w h hb hv hn hp rfl (by omega) hdis hlen rfl
 ·exact do_cut g v own xs k vp w h hb hk
/-! ## what waits -/
def wcells (l : List (Wr × Value)) : List Value := l.flatMap fun x => [.bool x.1.cut, .int .i64 (x.1.pos : Int), x.2]
theorem wcells_append (a b : List (Wr × Value)) : wcells (a ++ b) = wcells a ++ wcells b := by simp [wcells]
theorem wcells_at (l : List (Wr × Value)) (i : Nat) (h : i < l.length) : (wcells l)[i * 3]? = some (.bool l[i].1.cut) ∧ (wcells l)[i * 3 + 1]? = some (.int .i64 (l[i].1.pos : Int)) ∧ (wcells l)[i * 3 + 2]? = some l[i].2 := by
 induction l generalizing i with
 | nil => simp at h
 | cons x l ih =>
  have e : wcells (x :: l) = [.bool x.1.cut, .int .i64 (x.1.pos : Int), x.2] ++ wcells l := rfl
  cases i with
  | zero => rw [e]; exact ⟨rfl, rfl, rfl⟩
  | succ i =>
   have := ih i (by simpa using h)
   rw [e]
   rw [show (i + 1) * 3 = (i * 3) + 3 by omega, show i * 3 + 3 + 1 = i * 3 + 1 + 3 by omega, show i * 3 + 3 + 2 = i * 3 + 2 + 3 by omega]
   rw [List.getElem?_append_right (by simp), List.getElem?_append_right (by simp), List.getElem?_append_right (by simp)]
   simpa using this
def WsAt (w : World) (own rd : Nat → Prop) (vw : Value) (ws : List Wr) : Prop :=
 ∃ l : List (Wr × Value), l.map (·.1) = ws ∧ w.ownsRow 0 147 3 vw l.length (wcells l) ∧ (∀ g, vw.ownBlock = some g → own g) ∧ ∀ x ∈ l, BsAt w rd x.2 x.1.p
theorem own_keep {w w' : World} {base size n : Nat} {e : TypeId} {v : Value} {xs : List Value} (h : w.ownsRow base e size v n xs) (hk : ∀ g, v.ownBlock = some g → g < w.heap.size → w'.heap[g]? = w.heap[g]?) : w'.ownsRow base e size v n xs := by
 refine ⟨h.1, ?_⟩
 rcases h.2 with h2 | ⟨g, cap, cur, hv, h3, h4, h5⟩
 ·exact .inl h2
 ·exact .inr ⟨g, cap, cur, hv, h3, (hk g (by rw [hv]; rfl) (blk_lt h4)).trans h4, h5⟩
theorem WsAt.keep {w w' : World} {own rd : Nat → Prop} {vw : Value} {ws : List Wr} (h : WsAt w own rd vw ws) (hk : ∀ g, own g ∨ rd g → g < w.heap.size → w'.heap[g]? = w.heap[g]?) : WsAt w' own rd vw ws := by
 obtain ⟨l, h1, h2, h3, h4⟩ := h
 exact ⟨l, h1, own_keep h2 fun g hg hlt => hk g (.inl (h3 g hg)) hlt, h3, fun x hx => (h4 x hx).keep fun g hg hlt => hk g (.inr hg) hlt⟩
theorem WsAt.mono {w : World} {own own' rd rd' : Nat → Prop} {vw : Value} {ws : List Wr} (h : WsAt w own rd vw ws) (ho : ∀ g, g < w.heap.size → own g → own' g) (hr : ∀ g, g < w.heap.size → rd g → rd' g) : WsAt w own' rd' vw ws := by
 obtain ⟨l, h1, h2, h3, h4⟩ := h
 refine ⟨l, h1, h2, fun g hg => ?_, fun x hx => (h4 x hx).lts fun i hi hlt => hr i hlt hi⟩
 refine ho g ?_ (h3 g hg)
 rcases h2.2 with ⟨e, _⟩ | ⟨g', cap, cur, e, _, h5, _⟩
 ·rw [e] at hg; cases hg
 ·rw [e] at hg
  injection hg with hg
  have e' : g' = g := hg
  exact e' ▸ blk_lt h5
theorem WsAt.none_ {w : World} {own rd : Nat → Prop} : WsAt w own rd (.slice none 0 0) [] := ⟨[], rfl, ⟨rfl, .inl ⟨rfl, rfl⟩⟩, (fun _ h => by cases h), (by simp)⟩
theorem WsAt.form {w : World} {own rd : Nat → Prop} {vw : Value} {ws : List Wr} (h : WsAt w own rd vw ws) : ∃ A c, vw = .slice A ws.length c ∧ ws.length ≤ c ∧ c ≤ maxLen := by
 obtain ⟨l, rfl, h2, _⟩ := h
 rw [List.length_map]
 rcases h2.2 with ⟨e, h0⟩ | ⟨g', cap, cur, e, _, h5, h6, h7, _⟩
 ·exact ⟨none, 0, by rw [h0]; exact e, by omega, Nat.zero_le _⟩
 ·exact ⟨_, cap, e, h6, h7⟩
/-! ## a file -/
structure Fl where
 gone : Bool
 bytes : List UInt8
 safe : List UInt8
 waits : List Wr
def FileAt (w : World) (own rd : Nat → Prop) (g : Nat) (f : Fl) : Prop :=
 ∃ v : FlV, FlB w g v ∧ own g ∧ v.gone = f.gone ∧ BsAt w own v.vb f.bytes ∧ BsAt w own v.vs f.safe ∧ Sep v.vb f.bytes.length v.vs f.safe.length v.shared ∧ WsAt w own rd v.vw f.waits
theorem FileAt.keep {w w' : World} {own rd : Nat → Prop} {g : Nat} {f : Fl} (h : FileAt w own rd g f) (hk : ∀ g, own g ∨ rd g → g < w.heap.size → w'.heap[g]? = w.heap[g]?) : FileAt w' own rd g f := by
 obtain ⟨v, h1, h2, h3, h4, h5, h6, h7⟩ := h
 exact ⟨v, h1.keep (hk g (.inl h2) h1.lt), h2, h3, h4.keep fun i hi hl => hk i (.inl hi) hl, h5.keep fun i hi hl => hk i (.inl hi) hl, h6, h7.keep hk⟩
theorem FileAt.mono {w : World} {own own' rd rd' : Nat → Prop} {g : Nat} {f : Fl} (h : FileAt w own rd g f) (ho : ∀ g, g < w.heap.size → own g → own' g) (hr : ∀ g, g < w.heap.size → rd g → rd' g) : FileAt w own' rd' g f := by
 obtain ⟨v, h1, h2, h3, h4, h5, h6, h7⟩ := h
 exact ⟨v, h1, ho g h1.lt h2, h3, h4.lts fun i hi hl => ho i hl hi, h5.lts fun i hi hl => ho i hl hi, h6, h7.mono ho hr⟩
/-! ## files by numbers, names -/
def encF : Enc Int Nat := encI fun b => .pointer (some ⟨b, 0, none⟩)
def encN : Enc ByteArray Nat := encS fun n => .int .i64 (n : Int)
theorem zero_int (w : World) : (zeroValue 3).run Tryz.prog w = .ok (.int .i64 0) w := by kernel_rfl
theorem zero_file (w : World) : (zeroValue 96).run Tryz.prog w = .ok (.pointer none) w := by kernel_rfl
set_option maxHeartbeats 1000000 in
set_option maxRecDepth 100000 in
theorem named_no (g : Nat) (v : FsV) (lf : List (Int × Nat)) (n : Int) (w : World) (h : FsB w g v) (hm : MapAt encF w v.mf lf) (hn : aget lf n = none) :
  Calls Tryz.prog 74 #[.pointer (some ⟨g, 0, none⟩), .int .i64 n] w fun e w' => e = .returned (.pointer none) ∧ w = w' := by
 have h3 := h.c3
 have hl : (Instr.lookup 77 (.map (some v.mf)) (.int .i64 n) false).run Tryz.prog w = .ok (.pointer none) w := hm.look_no (E := encF) Tryz.underlying3 Tryz.underlying77 (zero_file w) hn
 clear h hm hn
 go_enter Tryz.func74, Tryz.ntmps74
 go_wp2
 go_ret
 exact ⟨rfl, rfl⟩
set_option maxHeartbeats 1000000 in
set_option maxRecDepth 100000 in
theorem named_yes (g fb : Nat) (v : FsV) (fv : FlV) (lf : List (Int × Nat)) (n : Int) (w : World) (h : FsB w g v) (hm : MapAt encF w v.mf lf) (hn : aget lf n = some fb) (hf : FlB w fb fv) :
  Calls Tryz.prog 74 #[.pointer (some ⟨g, 0, none⟩), .int .i64 n] w fun e w' => e = .returned (.pointer (if fv.gone then none else some ⟨fb, 0, none⟩)) ∧ w = w' := by
 have h3 := h.c3
 have hg := hf.c0
 have hl : (Instr.lookup 77 (.map (some v.mf)) (.int .i64 n) false).run Tryz.prog w = .ok (.pointer (some ⟨fb, 0, none⟩)) w := hm.look_yes (E := encF) Tryz.underlying3 Tryz.underlying77 (zero_file w) hn
 clear h hm hn hf
 cases hgo : fv.gone
 all_goals
  rw [hgo] at hg
  clear hgo
  go_enter Tryz.func74, Tryz.ntmps74
  go_wp2
  go_ret
  exact ⟨rfl, rfl⟩
def named (lf : List (Int × Nat)) (gone : Nat → Bool) (n : Int) : Option Addr := match aget lf n with | none => none | some fb => if gone fb then none else some ⟨fb, 0, none⟩
set_option maxHeartbeats 1000000 in
set_option maxRecDepth 100000 in
theorem find_dead (g : Nat) (v : FsV) (n : Int) (w : World) (h : FsB w g v) (hd : v.dead = true) :
  Calls Tryz.prog 38 #[.pointer (some ⟨g, 0, none⟩), .int .i64 n] w fun e w' => e = .returned (.tuple #[.pointer none, .int .i64 21]) ∧ w = w' := by
 have hr := ready_any g v none 0 0 [] w h Rd.nil_ (by simp)
 rw [hd, readyErr_dead] at hr
 have HR := hide hr
 clear h hd hr
 go_enter Tryz.func38, Tryz.ntmps38
 go_wp2_with (go_at_call 73; refine HR.out.mono ?_; rintro e w1 ⟨rfl, rfl⟩)
 go_ret2
 exact ⟨rfl, rfl⟩
set_option maxHeartbeats 1000000 in
set_option maxRecDepth 100000 in
theorem find_no (g : Nat) (v : FsV) (n : Int) (w : World) (h : FsB w g v) (hd : v.dead = false) (hn : Calls Tryz.prog 74 #[.pointer (some ⟨g, 0, none⟩), .int .i64 n] w fun e w' => e = .returned (.pointer none) ∧ w = w') :
  Calls Tryz.prog 38 #[.pointer (some ⟨g, 0, none⟩), .int .i64 n] w fun e w' => e = .returned (.tuple #[.pointer none, .int .i64 7]) ∧ w = w' := by
 have hr := ready_any g v none 0 0 [] w h Rd.nil_ (by simp)
 rw [hd, readyErr_ok rfl] at hr
 have HR := hide hr
 have HN := hide hn
 clear h hd hr hn
 go_enter Tryz.func38, Tryz.ntmps38
 go_wp2_with (first
  | (go_at_call 73; refine HR.out.mono ?_; rintro e w1 ⟨rfl, rfl⟩)
  | (go_at_call 74; refine HN.out.mono ?_; rintro e w1 ⟨rfl, rfl⟩))
 go_ret2
 exact ⟨rfl, rfl⟩
set_option maxHeartbeats 1000000 in
set_option maxRecDepth 100000 in
theorem find_yes (g fb : Nat) (v : FsV) (n : Int) (w : World) (h : FsB w g v) (hd : v.dead = false) (hn : Calls Tryz.prog 74 #[.pointer (some ⟨g, 0, none⟩), .int .i64 n] w fun e w' => e = .returned (.pointer (some ⟨fb, 0, none⟩)) ∧ w = w') :
  Calls Tryz.prog 38 #[.pointer (some ⟨g, 0, none⟩), .int .i64 n] w fun e w' => e = .returned (.tuple #[.pointer (some ⟨fb, 0, none⟩), .int .i64 0]) ∧ w = w' := by
 have hr := ready_any g v none 0 0 [] w h Rd.nil_ (by simp)
 rw [hd, readyErr_ok rfl] at hr
 have HR := hide hr
 have HN := hide hn
 clear h hd hr hn
 go_enter Tryz.func38, Tryz.ntmps38
 go_wp2_with (first
  | (go_at_call 73; refine HR.out.mono ?_; rintro e w1 ⟨rfl, rfl⟩)
  | (go_at_call 74; refine HN.out.mono ?_; rintro e w1 ⟨rfl, rfl⟩))
 go_ret2
 exact ⟨rfl, rfl⟩
theorem fsettle_any (g : Nat) (v : FlV) (own : Nat → Prop) (xs : List UInt8) (w : World) (h : FlB w g v) (ho : own g) (hb : BsAt w own v.vb xs) :
  Calls Tryz.prog 70 #[.pointer (some ⟨g, 0, none⟩)] w fun e w' => e = .returned (.tuple #[]) ∧ (∀ rd, FileAt w' own rd g ⟨v.gone, xs, xs, []⟩) ∧ w.grownBy w' (some g) := by
 obtain ⟨A, c, hv, hn, _⟩ := hb.form
 refine (fsettle_blk g v A xs.length c w h hv hn).mono fun e w' ⟨he, h1, h2⟩ => ⟨he, fun rd => ?_, h2⟩
 have hb' := hb.other h2 h (by decide)
 refine ⟨_, h1, ho, rfl, hb', ?_, ?_, WsAt.none_⟩
 ·rw [hv] at hb'
  have := hb'.cut (Nat.le_refl _)
  rwa [List.take_length] at this
 ·exact fun _ _ _ _ => ⟨rfl, .inl (Nat.le_refl _)⟩
end Go.Proofs.YtmcmlkglkpbnpaaGreat
