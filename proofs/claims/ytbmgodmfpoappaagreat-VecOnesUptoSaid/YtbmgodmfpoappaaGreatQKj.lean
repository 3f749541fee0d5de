/-
  The law VecRounds, walked.
-/
import Derived.Test.YtbmgodmfpoappaaGreatQKi
import Derived.Test.YtbmgodmfpoappaaGreatQKa
import Derived.Test.YtbmgodmfpoappaaGreatQKe
import Derived.Test.YtbmgodmfpoappaaGreatQKd
namespace Go.Proofs.YtbmgodmfpoappaaGreat
open Go.RowKit
attribute [local go_sem ↓] Go.wp_at_zero Go.wp_at_succ
set_option maxHeartbeats 8000000 in
set_option maxRecDepth 100000 in
theorem joined_any (l : List Vl) (K : Int) (n : List Int) (s : List ByteArray) (HNE : Hid (l.flatMap Vl.n = n)) (HSE : Hid (l.flatMap Vl.s = s)) (w : World) (B : Nat) (A : Option Addr) (c : Nat) (hl0 : 0 < l.length) (hk : kindO l[0].t l[0].s.length l[0].n.length = K) (ht : Vl.tots l ≤ 1200000000) (hB : B ≤ w.heap.size) (h : RdV w B A l) :
  Calls Tryz.prog 64 #[.slice A l.length c] w (NewV (.mk K n s []) w) := by
 obtain ⟨wa, hwa⟩ : ∃ wa, wa = w.alloc (.cells #[.int .i64 0, .slice none 0 0, .slice none 0 0, .slice none 0 0] 26) := ⟨_, rfl⟩
 have hg : w.grownBy wa none := by rw [hwa]; exact gb_alloc (gb_refl w none) _
 have hr : wa.heap[w.heap.size]? = some (.cells #[.int .i64 0, .slice none 0 0, .slice none 0 0, .slice none 0 0] 26 (0, 0)) := by rw [hwa]; exact heap_alloc_new w _
 have HSZ := hide (show wa.heap.size = w.heap.size + 1 by rw [hwa]; simp)
 have HG := hide hg
 have HR := hide hr
 have HWE := hide hwa
 have l1 : l.length ≤ 1200000000 := Nat.le_trans (Vl.length_le_tots l) ht
 have HT := hide ht
 have HFN : Hid (n.length ≤ 1200000000) := hide (by have := Nat.le_trans (flatN_le l) ht; rwa [HNE.out] at this)
 have HFS : Hid (s.length ≤ 1200000000) := hide (by have := Nat.le_trans (flatS_le l) ht; rwa [HSE.out] at this)
 have H := hide h
 have HBB := hide hB
 obtain ⟨b, o, xA0, xc0, yA0, yc0, zA0, zc0, rfl, hbB, hc40, _⟩ := h.first hl0
 obtain ⟨d0, d1, d2, d3⟩ := hc40.gb hg
 rw [hwa] at d0 d1 d2 d3
 have HKD := hide (fun w2 => (kind_any l[0].t xA0 l[0].n.length xc0 yA0 l[0].s.length yc0 (.slice zA0 l[0].l.length zc0) w2).mono (fun e w' h => (⟨h.1.trans (by rw [hk]), h.2⟩ : e = .returned (.int .i64 K) ∧ w2.grownBy w' none)))
 obtain ⟨i1, hi1, hiz, his, hib⟩ := info_parts Tryz.info64
 have HI1 := hide hi1
 have HIZ := hide hiz
 have HIS := hide his
 have HIB := hide hib
 obtain ⟨i2, hi2, hiz2, his2, hib2⟩ := info_parts Tryz.infoS
 have HJ1 := hide hi2
 have HJZ := hide hiz2
 have HJS := hide his2
 have HJB := hide hib2
 have hl01 : (0 : Int) < (l.length : Int) := by omega
 clear hk ht hB h hg hr hwa hc40 hi1 hiz his hib hi2 hiz2 his2 hib2
 go_enter Tryz.func64, Tryz.ntmps64
 go_wp2_with fail
 rw [← HWE.out]
 refine (HKD.out _).mono ?_
 rintro e w1 ⟨rfl, hg1⟩
 have HG1 := hide hg1
 clear hg1 d0 d1 d2 d3 HKD
 go_wp2_with fail
 go_loopw [13] (fun i wr => ∃ j : Nat, i = .int .i64 (j : Int) ∧ j ≤ l.length ∧ Grow w1 l (K) j wr) (fun i _ => l.length - (intOf i).toNat)
 case atStart =>
  refine ⟨0, rfl, Nat.zero_le _, none, 0, none, 0, ?_, ⟨rfl, .inl ⟨rfl, rfl⟩⟩, ⟨rfl, .inl ⟨rfl, rfl⟩⟩, gb_alloc (gb_refl w1 none) _⟩
  exact heap_alloc_new w1 _
 case round =>
  obtain ⟨j, rfl, hj, hfill⟩ := hrel
  by_cases hlt : j < l.length
  ·have hlt1 : (j : Int) < (l.length : Int) := by omega
   obtain ⟨N, nc, S, sc, hh, hoN, hoS, hg⟩ := hfill
   obtain ⟨q, p, xA, xc, yA, yc, zA, zc, hA, hqB, hc4', hvb'⟩ := H.out.at_ hlt
   simp only [Option.some.injEq, Addr.mk.injEq, and_true] at hA
   obtain ⟨rfl, rfl⟩ := hA
   have hgw : w.grownBy wr none := gb_trans HG.out (gb_trans HG1.out hg (.inl rfl)) (.inl rfl)
   obtain ⟨f0, f1, f2, f3⟩ := hc4'.gb hgw
   have hvr := hvb'.gb hgw HBB.out
   have hgb : wr.grownBy (wr.alloc (.cells #[.int .i64 l[j].t, .slice xA l[j].n.length xc, .slice yA l[j].s.length yc, .slice zA l[j].l.length zc] 26)) none := gb_alloc (gb_refl wr none) _
   have HFN1 := hide (flatN_take l j hlt)
   have HFS1 := hide (flatS_take l j hlt)
   have hbnd1 : ((l.take j).flatMap Vl.n).length + l[j].n.length ≤ 1200000000 := by
    have h1 := flatN_le (l.take (j + 1))
    have h2 := Vl.tots_take_le l (j + 1)
    rw [HFN1.out, List.length_append] at h1
    have := HT.out
    omega
   have hbnd2 : ((l.take j).flatMap Vl.s).length + l[j].s.length ≤ 1200000000 := by
    have h1 := flatS_le (l.take (j + 1))
    have h2 := Vl.tots_take_le l (j + 1)
    rw [HFS1.out, List.length_append] at h1
    have := HT.out
    omega
   clear HNE HSE HFN HFS
   generalize (l.take j).flatMap Vl.n = n at *
   generalize (l.take j).flatMap Vl.s = s at *
   have hBR : B ≤ w1.heap.size := by have := HBB.out; have := HG.out.size; have := HG1.out.size; omega
   have hBr : B ≤ wr.heap.size := by have := hg.size; omega
   have hRb := (hgb.block _ (blk_lt hh) (by simp)).trans hh
   have hXb := heap_alloc_new wr (.cells #[.int .i64 l[j].t, .slice xA l[j].n.length xc, .slice yA l[j].s.length yc, .slice zA l[j].l.length zc] 26)
   have r1 : (wr.alloc (.cells #[.int .i64 l[j].t, .slice xA l[j].n.length xc, .slice yA l[j].s.length yc, .slice zA l[j].l.length zc] 26)).cell? ⟨w1.heap.size, 1, none⟩ = some (.slice N n.length nc) := by rw [blk_cell hRb]; rfl
   have HON := hide (hoN.alloc (.cells #[.int .i64 l[j].t, .slice xA l[j].n.length xc, .slice yA l[j].s.length yc, .slice zA l[j].l.length zc] 26))
   have HOS := hide (hoS.alloc (.cells #[.int .i64 l[j].t, .slice xA l[j].n.length xc, .slice yA l[j].s.length yc, .slice zA l[j].l.length zc] 26))
   have HRN := hide (hvr.n.grown hgb hBr (by simp))
   have HRS := hide (hvr.s.grown hgb hBr (by simp))
   have HRB := hide hRb
   have HXB := hide hXb
   have HGR := hide hg
   have HGB := hide hgb
   have HBR := hide hBR
   have HLT := hide (blk_lt hh)
   have HL1 : Hid ((i64s l[j].n).length = l[j].n.length * 1) := hide (by simp [i64s])
   have HOC := hide (i64s_one l[j].n)
   have HM1 : Hid (n.length + l[j].n.length ≤ maxLen) := hide (by unfold maxLen; omega)
   have HMB : Hid ((n.length + l[j].n.length) * 8 ≤ 140737488355328) := hide (by omega)
   have HBS : Hid (w1.heap.size + 1 ≤ (wr.alloc (.cells #[.int .i64 l[j].t, .slice xA l[j].n.length xc, .slice yA l[j].s.length yc, .slice zA l[j].l.length zc] 26)).heap.size) := hide (by have := blk_lt hh; simp; omega)
   have HL2 : Hid ((strs l[j].s).length = l[j].s.length * 1) := hide (by simp [strs])
   have HOC2 := hide (strs_one l[j].s)
   have HM2 : Hid (s.length + l[j].s.length ≤ maxLen) := hide (by unfold maxLen; omega)
   have HMB2 : Hid ((s.length + l[j].s.length) * 16 ≤ 140737488355328) := hide (by omega)
   clear hh hoN hoS hg hc4' hvb' hgw hvr hgb hRb hXb hBR hBr
   go_wp2_with (first
    | (at_builtin; refine wpList_append_rd _ rfl (.tmp 18) (.tmp 20) 22 rfl (w1.heap.size + 1) 2 i1 (.int .i64 0) 1 8 Tryz.underlying22 HI1.out HIZ.out HIS.out HIB.out rfl (Nat.succ_pos 0) (.slice N n.length nc) n.length (i64s n) rfl HON.out B xA l[j].n.length xc (i64s l[j].n) rfl HL1.out HRN.out HOC.out HM1.out HMB.out HBS.out ?_; intro v5 w5 ho5 hg5 hb5; rw [← i64s_app] at ho5; obtain ⟨N5, nc5, rfl, hnc5⟩ := own_slice ho5; have hR5 := (hg5.block _ (blk_lt HRB.out) (fun e => own_ne HON.out HRB.out (by decide) e.symm)).trans HRB.out; have hX5 := (hg5.block _ (blk_lt HXB.out) (fun e => own_ne HON.out HXB.out (by decide) e.symm)).trans HXB.out; have p1 : w5.cell? ⟨w1.heap.size, 1, none⟩ = some (.slice N n.length nc) := (by rw [blk_cell hR5]; rfl); have z1 := blk_frozen hR5 1; have hgs : w5.grownBy (w5.setCell ⟨w1.heap.size, 1, none⟩ (.slice N5 (n.length + l[j].n.length) nc5)) (some w1.heap.size) := gb_setCell (gb_refl _ _) (.inl rfl) _; have hRs : (w5.setCell ⟨w1.heap.size, 1, none⟩ (.slice N5 (n.length + l[j].n.length) nc5)).heap[w1.heap.size]? = some (.cells #[.int .i64 (K), .slice N5 (n.length + l[j].n.length) nc5, .slice S s.length sc, .slice none 0 0] 26 (0, 0)) := blk_set hR5 1 _; have hXs := (hgs.block _ (blk_lt hX5) (by intro e; injection e with e; have := HLT.out; omega)).trans hX5; have q2 : (w5.setCell ⟨w1.heap.size, 1, none⟩ (.slice N5 (n.length + l[j].n.length) nc5)).cell? ⟨w1.heap.size, 2, none⟩ = some (.slice S s.length sc) := (by rw [blk_cell hRs]; rfl); have x2 : (w5.setCell ⟨w1.heap.size, 1, none⟩ (.slice N5 (n.length + l[j].n.length) nc5)).cell? ⟨wr.heap.size, 2, none⟩ = some (.slice yA l[j].s.length yc) := (by rw [blk_cell hXs]; rfl); have hoN5 := ho5.kept hgs (.inr (own_ne ho5 hR5 (by decide))); have hoS5a := HOS.out.kept hg5 (rows_apart HOS.out HON.out (by decide)); have hoS5 := hoS5a.kept hgs (.inr (own_ne hoS5a hR5 (by decide))); have hlN := HON.out.lt; have HRS5 := hide ((HRS.out.grown hg5 (by have := HBS.out; have := HBR.out; omega) (fun g e => by have := (hlN g e).1; have := HBR.out; omega)).grown hgs (by have := HBS.out; have := HBR.out; have := hg5.size; omega) (fun g e => by injection e with e; have := HBR.out; omega)); have HON5 := hide hoN5; have HOS5 := hide hoS5; have HRs5 := hide hRs; have HBS5 : Hid (w1.heap.size + 1 ≤ (w5.setCell ⟨w1.heap.size, 1, none⟩ (.slice N5 (n.length + l[j].n.length) nc5)).heap.size) := hide (by have := HBS.out; have := hg5.size; have := hgs.size; omega); have HG5 := hide (show w1.grownBy (w5.setCell ⟨w1.heap.size, 1, none⟩ (.slice N5 (n.length + l[j].n.length) nc5)) none from gb_trans (gb_trans (gb_trans HGR.out HGB.out (.inl rfl)) hg5 (match hq : (Value.slice N n.length nc).ownBlock with | none => .inr (.inl rfl) | some g => .inr (.inr ⟨g, rfl, by have := (hlN g hq).1; omega⟩))) hgs (.inr (.inr ⟨_, rfl, Nat.le_refl _⟩))); have HNC5 := hide hnc5; clear ho5 hg5 hb5 hR5 hX5 hgs hRs hXs hoN5 hoS5a hoS5 hlN hnc5)
    | (at_builtin; refine wpList_append_rd _ rfl (.tmp 24) (.tmp 26) 23 rfl (w1.heap.size + 1) 9 i2 (.string ⟨#[]⟩) 1 16 Tryz.underlying23 HJ1.out HJZ.out HJS.out HJB.out rfl (Nat.succ_pos 0) (.slice S s.length sc) s.length (strs s) rfl HOS5.out B yA l[j].s.length yc (strs l[j].s) rfl HL2.out HRS5.out HOC2.out HM2.out HMB2.out HBS5.out ?_; intro v6 w6 ho6 hg6 hb6; rw [← strs_app] at ho6; obtain ⟨S6, sc6, rfl, hsc6⟩ := own_slice ho6; have hR6 := (hg6.block _ (blk_lt HRs5.out) (fun e => own_ne HOS5.out HRs5.out (by decide) e.symm)).trans HRs5.out; have p2 : w6.cell? ⟨w1.heap.size, 2, none⟩ = some (.slice S s.length sc) := (by rw [blk_cell hR6]; rfl); have z2 := blk_frozen hR6 2; have hgt : w6.grownBy (w6.setCell ⟨w1.heap.size, 2, none⟩ (.slice S6 (s.length + l[j].s.length) sc6)) (some w1.heap.size) := gb_setCell (gb_refl _ _) (.inl rfl) _; have hRt : (w6.setCell ⟨w1.heap.size, 2, none⟩ (.slice S6 (s.length + l[j].s.length) sc6)).heap[w1.heap.size]? = some (.cells #[.int .i64 (K), .slice N5 (n.length + l[j].n.length) nc5, .slice S6 (s.length + l[j].s.length) sc6, .slice none 0 0] 26 (0, 0)) := blk_set hR6 2 _; have hlS := HOS5.out.lt; have hoN6a := HON5.out.kept hg6 (rows_apart HON5.out HOS5.out (by decide)); have HON6 := hide (hoN6a.kept hgt (.inr (own_ne hoN6a hR6 (by decide)))); have HOS6 := hide (ho6.kept hgt (.inr (own_ne ho6 hR6 (by decide)))); have HR6 := hide hRt; have HG6 := hide (show w1.grownBy (w6.setCell ⟨w1.heap.size, 2, none⟩ (.slice S6 (s.length + l[j].s.length) sc6)) none from gb_trans (gb_trans HG5.out hg6 (match hq : (Value.slice S s.length sc).ownBlock with | none => .inr (.inl rfl) | some g => .inr (.inr ⟨g, rfl, by have := (hlS g hq).1; omega⟩))) hgt (.inr (.inr ⟨_, rfl, Nat.le_refl _⟩))); clear ho6 hg6 hb6 hR6 hgt hRt hoN6a hlS hsc6))
   go_roundw
   case rel =>
    refine ⟨j + 1, by go_num, by omega, ?_⟩
    unfold Grow
    rw [HFN1.out, HFS1.out, List.length_append, List.length_append]
    exact ⟨N5, nc5, S6, sc6, HR6.out, HON6.out, HOS6.out, HG6.out⟩
   case measure => simp [intOf]; omega
  ·have hlt1 : ¬ (j : Int) < (l.length : Int) := by omega
   obtain rfl : j = l.length := by omega
   obtain ⟨N, nc, S, sc, hh, hoN, hoS, hg⟩ := hfill
   rw [List.take_length, HNE.out] at hoN
   rw [List.take_length, HSE.out] at hoS
   rw [List.take_length, HNE.out, HSE.out] at hh
   have hfn := HFN.out
   have hfs := HFS.out
   obtain ⟨_, _, hvN, hcN⟩ := own_slice hoN
   obtain ⟨_, _, hvS, hcS⟩ := own_slice hoS
   injection hvN with hvN1 hvN2 hvN3
   injection hvS with hvS1 hvS2 hvS3
   clear hvN1 hvN2 hvS1 hvS2
   subst hvN3
   subst hvS3
   obtain ⟨f1, o1, b1⟩ := Own.of_row hoN
   obtain ⟨f2, o2, b2⟩ := Own.of_row hoS
   have hr := (hg.block _ (by have := blk_lt HR.out; have := HG1.out.size; omega) (by simp)).trans ((HG1.out.block _ (blk_lt HR.out) (by simp)).trans HR.out)
   have hn : New wa wr (f1 ++ (f2 ++ ([] ++ []))) := by
    have hs := HG1.out.size
    refine ⟨?_, fun b hb => ?_⟩
    ·simp only [List.append_nil]
     refine List.nodup_append.2 ⟨?_, ?_, fun x hx y hy e => ?_⟩
     ·match f1, o1.len with
      | [], _ => simp
      | [x], _ => simp
     ·match f2, o2.len with
      | [], _ => simp
      | [x], _ => simp
     ·subst e
      have k1 := o1.blk x hx (n := n.length) (c := nc)
      have k2 := o2.blk x hy (n := s.length) (c := sc)
      rcases rows_apart hoN hoS (by decide) with h | h
      ·rw [h] at k1; cases k1
      ·rw [k1, k2] at h; exact h rfl
    ·simp only [List.append_nil] at hb
     rcases List.mem_append.1 hb with hb | hb
     ·have := b1 b hb; omega
     ·have := b2 b hb; omega
   have HN := hide hn
   have HO1 := hide o1
   have HO2 := hide o2
   have HCN := hide hcN
   have HCS := hide hcS
   have HGR := hide hg
   clear hn o1 o2 b1 b2 hcN hcS hg hoN hoS
   have p0 : wr.cell? ⟨w.heap.size, 0, none⟩ = some (.int .i64 0) := by rw [blk_cell hr]; rfl
   have p1 : wr.cell? ⟨w.heap.size, 1, none⟩ = some (.slice none 0 0) := by rw [blk_cell hr]; rfl
   have p2 : wr.cell? ⟨w.heap.size, 2, none⟩ = some (.slice none 0 0) := by rw [blk_cell hr]; rfl
   have p3 : wr.cell? ⟨w.heap.size, 3, none⟩ = some (.slice none 0 0) := by rw [blk_cell hr]; rfl
   have z0 := blk_frozen hr 0
   have z1 := blk_frozen hr 1
   have z2 := blk_frozen hr 2
   have z3 := blk_frozen hr 3
   have q0 : wr.cell? ⟨w1.heap.size, 0, none⟩ = some (.int .i64 (K)) := by rw [blk_cell hh]; rfl
   have q1 : wr.cell? ⟨w1.heap.size, 1, none⟩ = some (.slice N n.length nc) := by rw [blk_cell hh]; rfl
   have q2 : wr.cell? ⟨w1.heap.size, 2, none⟩ = some (.slice S s.length sc) := by rw [blk_cell hh]; rfl
   have q3 : wr.cell? ⟨w1.heap.size, 3, none⟩ = some (.slice none 0 0) := by rw [blk_cell hh]; rfl
   clear hr hh
   go_wp2_with fail
   refine bodyPost_ret (v := .agg #[.int .i64 (K), .slice N n.length nc, .slice S s.length sc, .slice none 0 0]) (by simp [results, Tryz.results64, go_sem, p0, p1, p2, p3]) rfl ?_
   exact NewV.of_put (v := .mk (K) n s []) (f1 := f1) (f2 := f2) (f := []) (g := []) (xs := []) HSZ.out HG.out (gb_trans HG1.out HGR.out (.inl rfl)) HCN.out HO1.out HCS.out HO2.out (Nat.le_refl _) (.inl ⟨rfl, rfl⟩) ⟨rfl, rfl⟩ HN.out
end Go.Proofs.YtbmgodmfpoappaaGreat
namespace Go.Proofs.YtbmgodmfpoappaaGreat
open Go.RowKit
attribute [local go_sem ↓] Go.wp_at_zero Go.wp_at_succ
def vNl (v : Vl) : Bool := v.t == 101
set_option maxHeartbeats 4000000 in
set_option maxRecDepth 100000 in
theorem vNl_any (v : Vl) (c1 c2 c3 : Value) (w : World) : Calls Tryz.prog 62 #[.agg #[.int .i64 v.t, c1, c2, c3]] w fun e w' => e = .returned (.bool (vNl v)) ∧ w.grownBy w' none := by
 have HA := hide (show (v.t == 101) = vNl v from rfl)
 go_enter Tryz.func62, Tryz.ntmps62
 go_wp2_with fail
 go_ret
 exact ⟨ret_b HA.out, gb_alloc (gb_refl w none) _⟩
set_option maxHeartbeats 4000000 in
set_option maxRecDepth 100000 in
theorem vNil_idx (l : List Vl) (w : World) (B : Nat) (A : Option Addr) (c : Nat) (hl : l.length ≤ 1200000000) (hB : B ≤ w.heap.size) (h : RdV w B A l) :
  Calls Tryz.prog 107 #[.slice A l.length c, .func (.func 62) #[] #[]] w (IdxPost (l.any vNl) w) := by
 have H := hide h
 have HB := hide hB
 clear h hB
 go_enter Tryz.func107, Tryz.ntmps107
 go_wp2_with fail
 go_loopw [8] (fun i wr => ∃ j : Nat, i = .int .i64 (j : Int) ∧ j ≤ l.length ∧ Hid ((l.take j).any vNl = false) ∧ w.grownBy wr none) (fun i _ => l.length - (intOf i).toNat)
 case atStart => exact ⟨0, rfl, Nat.zero_le _, hide (by simp), gb_refl w none⟩
 case round =>
  obtain ⟨j, rfl, hj, HE, hgr⟩ := hrel
  have HGR := hide hgr
  clear hgr
  by_cases hlt : j < l.length
  ·have hlt1 : (j : Int) < (l.length : Int) := by omega
   obtain ⟨q, o, xA, xc, yA, yc, zA, zc, rfl, hqB, hc4, _⟩ := H.out.at_ hlt
   obtain ⟨d0, d1, d2, d3⟩ := hc4.gb HGR.out
   have HC := hide (vNl_any l[j] (.slice xA l[j].n.length xc) (.slice yA l[j].s.length yc) (.slice zA l[j].l.length zc) wr)
   have HL := hide (show l.take (j + 1) = l.take j ++ [l[j]] from List.take_succ_eq_append_getElem hlt)
   have HA : Hid (vNl l[j] = true → l.any vNl = true) := hide (fun h => List.any_eq_true.2 ⟨_, List.getElem_mem hlt, h⟩)
   clear hc4
   cases hp : vNl l[j]
   ·rw [hp] at HC
    have HP := hide hp
    clear hp
    go_wp2_with (go_at_call 62; refine HC.out.mono ?_; rintro e w1 ⟨rfl, hg1⟩; have HG1 := hide hg1; clear hg1)
    go_roundw
    case rel => exact ⟨j + 1, by go_num, by omega, hide (by rw [HL.out, List.any_append, HE.out]; simp [HP.out]), gb_trans HGR.out HG1.out (.inl rfl)⟩
    case measure => simp [intOf]; omega
   ·rw [hp] at HC
    have HA2 := hide (HA.out hp)
    clear hp
    go_wp2_with (go_at_call 62; refine HC.out.mono ?_; rintro e w1 ⟨rfl, hg1⟩; have HG1 := hide hg1; clear hg1)
    go_ret
    exact ⟨j, rfl, by rw [HA2.out]; exact decide_eq_true (by omega), gb_trans HGR.out HG1.out (.inl rfl)⟩
  ·have hlt1 : ¬ (j : Int) < (l.length : Int) := by omega
   have HT := hide (show l.take j = l from List.take_of_length_le (by omega))
   go_wp2_with fail
   go_ret
   exact ⟨-1, rfl, by have := HE.out; rw [HT.out] at this; rw [this]; rfl, HGR.out⟩
set_option maxHeartbeats 4000000 in
set_option maxRecDepth 100000 in
theorem vNil_has  (l : List Vl) (w : World) (B : Nat) (A : Option Addr) (c : Nat) (hl : l.length ≤ 1200000000) (hB : B ≤ w.heap.size) (h : RdV w B A l)  :
  Calls Tryz.prog 61 #[.slice A l.length c, .func (.func 62) #[] #[]] w fun e w' => e = .returned (.bool (l.any vNl)) ∧ w.grownBy w' none := by
 have HI := hide (vNil_idx  l w B A c hl hB h )
 clear h hB
 generalize l.any vNl = b at *
 go_enter Tryz.func61, Tryz.ntmps61
 go_wp2_with (go_at_call 107; refine HI.out.mono ?_; rintro e w1 ⟨r, rfl, hr, hg1⟩; have HR := hide hr; have HG1 := hide hg1; clear hr hg1)
 go_ret
 exact ⟨ret_b (by rw [← HR.out]), HG1.out⟩
def kdV (v : Vl) : Int := kindO v.t v.s.length v.n.length
def widV (v : Vl) : Nat := if kdV v = v.t then v.count else 1
set_option maxHeartbeats 4000000 in
set_option maxRecDepth 100000 in
theorem width_any (x : Vl) (w : World) (B : Nat) (xA : Option Addr) (xc : Nat) (yA : Option Addr) (yc : Nat) (zA : Option Addr) (zc : Nat) (ht : x.tot ≤ 1200000000) (hB : B ≤ w.heap.size) (h : VB w B x xA xc yA yc zA zc) :
  Calls Tryz.prog 60 #[.agg #[.int .i64 x.t, .slice xA x.n.length xc, .slice yA x.s.length yc, .slice zA x.l.length zc]] w fun e w' => e = .returned (.int .i64 (widV x : Nat)) ∧ w.grownBy w' none := by
 obtain ⟨wa, hwa⟩ : ∃ wa, wa = w.alloc (.cells #[.int .i64 x.t, .slice xA x.n.length xc, .slice yA x.s.length yc, .slice zA x.l.length zc] 26) := ⟨_, rfl⟩
 have hb : wa.heap[w.heap.size]? = some (.cells #[.int .i64 x.t, .slice xA x.n.length xc, .slice yA x.s.length yc, .slice zA x.l.length zc] 26 (0, 0)) := by rw [hwa]; exact heap_alloc_new w _
 have HB := hide hb
 have hg : w.grownBy wa none := by rw [hwa]; exact gb_alloc (gb_refl w none) _
 have HG := hide hg
 have HWE := hide hwa
 have HCN := hide (fun w2 (hg : w.grownBy w2 none) => count_d x.depth x w2 B xA xc yA yc zA zc (Nat.le_refl _) ht (Nat.le_trans hB hg.size) (h.gb hg hB))
 obtain ⟨c0, c1, c2, c3⟩ : C4 wa w.heap.size 0 (.int .i64 x.t) (.slice xA x.n.length xc) (.slice yA x.s.length yc) (.slice zA x.l.length zc) := c4k hb
 have HIS := hide (fun w2 => (isSeq_any x.t xA x.n.length xc yA x.s.length yc (.slice zA x.l.length zc) w2).mono (fun e w' h => (⟨h.1, h.2⟩ : e = .returned (.bool (kdV x == x.t)) ∧ w2.grownBy w' none)))
 clear hb hg hwa ht hB h
 by_cases hk : kdV x = x.t
 ·have HW := hide (show widV x = x.count by unfold widV; rw [if_pos hk])
  have hkb : (kdV x == x.t) = true := by simp [hk]
  rw [hkb] at HIS
  clear hk hkb
  go_enter Tryz.func60, Tryz.ntmps60
  go_wp2_with fail
  rw [← HWE.out]
  go_wp2_with (first
   | (go_at_call 56; refine (HIS.out _).mono ?_; rintro e w1 ⟨rfl, hg1⟩; have HG1 := hide hg1; clear c0 c1 c2 c3; obtain ⟨c0, c1, c2, c3⟩ := c4k (blk_keep HB.out hg1 (by simp)); clear hg1)
   | (go_at_call 58; refine (HCN.out _ (gb_trans HG.out HG1.out (.inl rfl))).mono ?_; rintro e w2 ⟨rfl, hg2⟩; have HG2 := hide hg2; clear hg2))
  exact bodyPost_ret (v := .int .i64 (x.count : Nat)) (by simp [results, Tryz.results60, go_sem]) rfl ⟨by rw [HW.out], gb_trans HG.out (gb_trans HG1.out HG2.out (.inl rfl)) (.inl rfl)⟩
 ·have HW := hide (show widV x = 1 by unfold widV; rw [if_neg hk])
  have hkb : (kdV x == x.t) = false := by simp [hk]
  rw [hkb] at HIS
  clear hk hkb
  go_enter Tryz.func60, Tryz.ntmps60
  go_wp2_with fail
  rw [← HWE.out]
  go_wp2_with (go_at_call 56; refine (HIS.out _).mono ?_; rintro e w1 ⟨rfl, hg1⟩; have HG1 := hide hg1; clear hg1)
  exact bodyPost_ret (v := .int .i64 1) (by simp [results, Tryz.results60, go_sem]) rfl ⟨by rw [HW.out]; rfl, gb_trans HG.out HG1.out (.inl rfl)⟩
set_option maxHeartbeats 4000000 in
set_option maxRecDepth 100000 in
theorem unlike_any (x h : Vl) (w : World) (xA : Option Addr) (xc : Nat) (yA : Option Addr) (yc : Nat) (zA : Option Addr) (zc : Nat) (hA : Option Addr) (hc : Nat) (iA : Option Addr) (ic : Nat) (jA : Option Addr) (jc : Nat) (g b o len c : Nat) (hl : 0 < len) (hg : w.cell? ⟨g, 0, none⟩ = some (.slice (some ⟨b, o, none⟩) len c)) (hh : C4 w b o (.int .i64 h.t) (.slice hA h.n.length hc) (.slice iA h.s.length ic) (.slice jA h.l.length jc)) :
  Calls Tryz.prog 108 #[.agg #[.int .i64 x.t, .slice xA x.n.length xc, .slice yA x.s.length yc, .slice zA x.l.length zc], .pointer (some ⟨g, 0, none⟩)] w fun e w' => e = .returned (.bool (kdV x != kdV h)) ∧ w.grownBy w' none := by
 obtain ⟨wa, hwa⟩ : ∃ wa, wa = w.alloc (.cells #[.int .i64 x.t, .slice xA x.n.length xc, .slice yA x.s.length yc, .slice zA x.l.length zc] 26) := ⟨_, rfl⟩
 have hb : wa.heap[w.heap.size]? = some (.cells #[.int .i64 x.t, .slice xA x.n.length xc, .slice yA x.s.length yc, .slice zA x.l.length zc] 26 (0, 0)) := by rw [hwa]; exact heap_alloc_new w _
 have hga : w.grownBy wa none := by rw [hwa]; exact gb_alloc (gb_refl w none) _
 have HG := hide hga
 have HWE := hide hwa
 have HC := hide (show C4 wa w.heap.size 0 (.int .i64 x.t) (.slice xA x.n.length xc) (.slice yA x.s.length yc) (.slice zA x.l.length zc) from c4k hb)
 have HD := hide (hh.gb hga)
 have HGC := hide (cell_gb hg hga)
 have HL0 := hide (show (0 : Int) < (len : Int) by omega)
 have HL1 := hide (show 0 < len from hl)
 clear hb hga hwa hl hg hh
 go_enter Tryz.func108, Tryz.ntmps108
 go_wp2_with fail
 rw [← HWE.out]
 refine wp_region_facts' 7 (by kernel_rfl) (by kernel_rfl) ?_
 intro A O W L HA HO HW HL
 simp only [List.take_succ_cons, List.take_zero]
 have HS := hide (show A.tmps.size = 11 by rw [HA.out]; rfl)
 have HGW := hide (show wa.grownBy W none by rw [HW.out]; exact gb_drew (gb_refl wa none))
 have A1 := hide (show A.eval (.tmp 1) = .pointer (some ⟨g, 0, none⟩) by rw [HA.out]; rfl)
 have A2 := hide (show A.eval (.tmp 2) = .pointer (some ⟨w.heap.size, 0, none⟩) by rw [HA.out]; rfl)
 refine wpFacts_lit (.agg #[.int .i64 x.t, .slice xA x.n.length xc, .slice yA x.s.length yc, .slice zA x.l.length zc]) rfl ?_ ?_
 ·intro a wq hw hl
  have e2 : a.tmps[2]?.getD undef = .pointer (some ⟨w.heap.size, 0, none⟩) := (hl 2 (by first | (simp [Op.operands]; done) | simp [Op.operands, Call.operands]) (by rw [HS.out]; decide)).trans A2.out
  obtain ⟨c0, c1, c2, c3⟩ := HC.out.gb (gb_trans HGW.out hw (.inl rfl))
  clear hl
  go_simp
 refine wpFacts_step (fun vq _ => vq = .int .i64 (kdV x)) rfl (Lit.up _) ?_ ?_
 ·intro a wq hw hl
  have e4 : a.tmps[4]?.getD undef = .agg #[.int .i64 x.t, .slice xA x.n.length xc, .slice yA x.s.length yc, .slice zA x.l.length zc] := hl 4 (by first | (simp [Op.operands]; done) | simp [Op.operands, Call.operands]) (by rw [HS.out]; decide)
  clear hl
  go_simp
  exact gUpon_lit (kind_any _ _ _ _ _ _ _ _ _)
 refine wpFacts_lit (.slice (some ⟨b, o, none⟩) len c) rfl ?_ ?_
 ·intro a wq hw hl
  have e1 : a.tmps[1]?.getD undef = .pointer (some ⟨g, 0, none⟩) := (hl 1 (by first | (simp [Op.operands]; done) | simp [Op.operands, Call.operands]) (by rw [HS.out]; decide)).trans A1.out
  have cg := cell_gb HGC.out (gb_trans HGW.out hw (.inl rfl))
  clear hl
  go_simp
 refine wpFacts_lit (.pointer (some ⟨b, o, none⟩)) rfl ?_ ?_
 ·intro a wq hw hl
  have e6 : a.tmps[6]?.getD undef = .slice (some ⟨b, o, none⟩) len c := hl 6 (by first | (simp [Op.operands]; done) | simp [Op.operands, Call.operands]) (by rw [HS.out]; decide)
  have l0 := HL0.out
  have l1 := HL1.out
  clear hl
  go_simp
 refine wpFacts_lit (.agg #[.int .i64 h.t, .slice hA h.n.length hc, .slice iA h.s.length ic, .slice jA h.l.length jc]) rfl ?_ ?_
 ·intro a wq hw hl
  have e7 : a.tmps[7]?.getD undef = .pointer (some ⟨b, o, none⟩) := hl 7 (by first | (simp [Op.operands]; done) | simp [Op.operands, Call.operands]) (by rw [HS.out]; decide)
  obtain ⟨d0, d1, d2, d3⟩ := HD.out.gb (gb_trans HGW.out hw (.inl rfl))
  clear hl
  go_simp
 refine wpFacts_step (fun vq _ => vq = .int .i64 (kdV h)) rfl (Lit.up _) ?_ ?_
 ·intro a wq hw hl
  have e8 : a.tmps[8]?.getD undef = .agg #[.int .i64 h.t, .slice hA h.n.length hc, .slice iA h.s.length ic, .slice jA h.l.length jc] := hl 8 (by first | (simp [Op.operands]; done) | simp [Op.operands, Call.operands]) (by rw [HS.out]; decide)
  clear hl
  go_simp
  exact gUpon_lit (kind_any _ _ _ _ _ _ _ _ _)
 refine wpFacts_lit (.bool (kdV x != kdV h)) rfl ?_ ?_
 ·intro a wq hw hl
  have e5 : a.tmps[5]?.getD undef = .int .i64 (kdV x) := hl 5 (by first | (simp [Op.operands]; done) | simp [Op.operands, Call.operands]) (by rw [HS.out]; decide)
  have e9 : a.tmps[9]?.getD undef = .int .i64 (kdV h) := hl 9 (by first | (simp [Op.operands]; done) | simp [Op.operands, Call.operands]) (by rw [HS.out]; decide)
  clear hl
  go_simp
 refine HL.out _ (fun a' w5 hc => ?_)
 have e10 : a'.eval (.tmp 10) = .bool (kdV x != kdV h) := hc.fact 10 (by rw [HS.out]; decide)
 have hgw5 := gb_trans HGW.out hc.grown (.inl rfl)
 have hfr := hc.frame [4, 5, 6, 7, 8, 9, 10, 3] (by rw [HO.out]; kernel_rfl)
 rw [hfr]
 clear hfr hc
 rw [HA.out]
 clear HA HO HL HW HS HGW A1 A2
 clear A O W L
 simp only [List.drop_succ_cons, List.drop_zero, List.foldl_cons, List.foldl_nil, Act.put, List.setIfInBounds_toArray, List.set_cons_succ, List.set_cons_zero]
 rw [e10]
 generalize a'.eval (.tmp 4) = x4
 generalize a'.eval (.tmp 5) = x5
 generalize a'.eval (.tmp 6) = x6
 generalize a'.eval (.tmp 7) = x7
 generalize a'.eval (.tmp 8) = x8
 generalize a'.eval (.tmp 9) = x9
 generalize a'.eval (.tmp 3) = x3
 clear e10
 clear a'
 have HG5 := hide (gb_trans HG.out hgw5 (.inl rfl))
 clear hgw5
 go_wp2_with fail
 exact bodyPost_ret (v := .bool (kdV x != kdV h)) (by simp [results, Tryz.results108, go_sem]) rfl ⟨rfl, HG5.out⟩
set_option maxHeartbeats 4000000 in
set_option maxRecDepth 100000 in
theorem unlike_idx (l : List Vl) (w : World) (B : Nat) (A : Option Addr) (c : Nat) (hl : l.length ≤ 1200000000) (hB : B ≤ w.heap.size) (h : RdV w B A l) (K : Int) (g : Nat) (hun : ∀ w2, w.grownBy w2 none → ∀ (x : Vl) (xA : Option Addr) (xc : Nat) (yA : Option Addr) (yc : Nat) (zA : Option Addr) (zc : Nat), Calls Tryz.prog 108 #[.agg #[.int .i64 x.t, .slice xA x.n.length xc, .slice yA x.s.length yc, .slice zA x.l.length zc], .pointer (some ⟨g, 0, none⟩)] w2 fun e w' => e = .returned (.bool (kdV x != K)) ∧ w2.grownBy w' none) :
  Calls Tryz.prog 107 #[.slice A l.length c, .func (.func 108) #[] #[.pointer (some ⟨g, 0, none⟩)]] w (IdxPost (l.any (fun x => kdV x != K)) w) := by
 have H := hide h
 have HUN := hide hun
 clear hun
 have HB := hide hB
 clear h hB
 go_enter Tryz.func107, Tryz.ntmps107
 go_wp2_with fail
 go_loopw [8] (fun i wr => ∃ j : Nat, i = .int .i64 (j : Int) ∧ j ≤ l.length ∧ Hid ((l.take j).any (fun x => kdV x != K) = false) ∧ w.grownBy wr none) (fun i _ => l.length - (intOf i).toNat)
 case atStart => exact ⟨0, rfl, Nat.zero_le _, hide (by simp), gb_refl w none⟩
 case round =>
  obtain ⟨j, rfl, hj, HE, hgr⟩ := hrel
  have HGR := hide hgr
  clear hgr
  by_cases hlt : j < l.length
  ·have hlt1 : (j : Int) < (l.length : Int) := by omega
   obtain ⟨q, o, xA, xc, yA, yc, zA, zc, rfl, hqB, hc4, _⟩ := H.out.at_ hlt
   obtain ⟨d0, d1, d2, d3⟩ := hc4.gb HGR.out
   have HC := hide (HUN.out wr HGR.out l[j] xA xc yA yc zA zc)
   have HL := hide (show l.take (j + 1) = l.take j ++ [l[j]] from List.take_succ_eq_append_getElem hlt)
   have HA : Hid ((kdV l[j] != K) = true → l.any fun x => kdV x != K = true) := hide (fun h => List.any_eq_true.2 ⟨_, List.getElem_mem hlt, h⟩)
   clear hc4
   cases hp : (kdV l[j] != K)
   ·rw [hp] at HC
    have HP := hide hp
    clear hp
    go_wp2_with (go_at_call 108; refine HC.out.mono ?_; rintro e w1 ⟨rfl, hg1⟩; have HG1 := hide hg1; clear hg1)
    go_roundw
    case rel => exact ⟨j + 1, by go_num, by omega, hide (by rw [HL.out, List.any_append, HE.out]; simp [HP.out]), gb_trans HGR.out HG1.out (.inl rfl)⟩
    case measure => simp [intOf]; omega
   ·rw [hp] at HC
    have HA2 := hide (HA.out hp)
    clear hp
    go_wp2_with (go_at_call 108; refine HC.out.mono ?_; rintro e w1 ⟨rfl, hg1⟩; have HG1 := hide hg1; clear hg1)
    go_ret
    exact ⟨j, rfl, by rw [HA2.out]; exact decide_eq_true (by omega), gb_trans HGR.out HG1.out (.inl rfl)⟩
  ·have hlt1 : ¬ (j : Int) < (l.length : Int) := by omega
   have HT := hide (show l.take j = l from List.take_of_length_le (by omega))
   go_wp2_with fail
   go_ret
   exact ⟨-1, rfl, by have := HE.out; rw [HT.out] at this; rw [this]; rfl, HGR.out⟩
set_option maxHeartbeats 4000000 in
set_option maxRecDepth 100000 in
theorem unlike_has  (l : List Vl) (w : World) (B : Nat) (A : Option Addr) (c : Nat) (hl : l.length ≤ 1200000000) (hB : B ≤ w.heap.size) (h : RdV w B A l) (K : Int) (g : Nat) (hun : ∀ w2, w.grownBy w2 none → ∀ (x : Vl) (xA : Option Addr) (xc : Nat) (yA : Option Addr) (yc : Nat) (zA : Option Addr) (zc : Nat), Calls Tryz.prog 108 #[.agg #[.int .i64 x.t, .slice xA x.n.length xc, .slice yA x.s.length yc, .slice zA x.l.length zc], .pointer (some ⟨g, 0, none⟩)] w2 fun e w' => e = .returned (.bool (kdV x != K)) ∧ w2.grownBy w' none) :
  Calls Tryz.prog 61 #[.slice A l.length c, .func (.func 108) #[] #[.pointer (some ⟨g, 0, none⟩)]] w fun e w' => e = .returned (.bool (l.any (fun x => kdV x != K))) ∧ w.grownBy w' none := by
 have HI := hide (unlike_idx l w B A c hl hB h K g hun)
 clear h hB hun
 generalize (l.any fun x => kdV x != K) = b at *
 go_enter Tryz.func61, Tryz.ntmps61
 go_wp2_with (go_at_call 107; refine HI.out.mono ?_; rintro e w1 ⟨r, rfl, hr, hg1⟩; have HR := hide hr; have HG1 := hide hg1; clear hr hg1)
 go_ret
 exact ⟨ret_b (by rw [← HR.out]), HG1.out⟩
end Go.Proofs.YtbmgodmfpoappaaGreat
namespace Go.Proofs.YtbmgodmfpoappaaGreat
open Go.RowKit
attribute [local go_sem ↓] Go.wp_at_zero Go.wp_at_succ
def oneK (l : List Vl) : Bool := match l with
 | [] => false
 | h :: r => kdV h != 0 && !((h :: r).any fun x => kdV x != kdV h)
theorem oneK_def {l : List Vl} (h : 0 < l.length) : oneK l = (kdV l[0] != 0 && !(l.any fun x => kdV x != kdV l[0])) := by
 cases l with
 | nil => simp at h
 | cons a r => rfl
set_option maxHeartbeats 4000000 in
set_option maxRecDepth 100000 in
theorem ofOneKind_any (l : List Vl) (w : World) (B : Nat) (A : Option Addr) (c : Nat) (ht : l.length ≤ 1200000000) (hB : B ≤ w.heap.size) (h : RdV w B A l) :
  Calls Tryz.prog 63 #[.slice A l.length c] w fun e w' => e = .returned (.bool (oneK l)) ∧ w.grownBy w' none := by
 obtain ⟨wa, hwa⟩ : ∃ wa, wa = w.alloc (.cells #[.slice A l.length c] 24) := ⟨_, rfl⟩
 have hb : wa.heap[w.heap.size]? = some (.cells #[.slice A l.length c] 24 (0, 0)) := by rw [hwa]; exact heap_alloc_new w _
 have hg : w.grownBy wa none := by rw [hwa]; exact gb_alloc (gb_refl w none) _
 have HB := hide hb
 have HG := hide hg
 have HWE := hide hwa
 have b0 : wa.cell? ⟨w.heap.size, 0, none⟩ = some (.slice A l.length c) := by rw [blk_cell hb]; rfl
 rcases Nat.eq_zero_or_pos l.length with hl | hl
 ·have HO := hide (show oneK l = false by rw [List.eq_nil_of_length_eq_zero hl]; rfl)
  have hl0 : ((l.length : Int) == 0) = true := by simp [hl]
  have b0a := b0
  rw [hwa] at b0a
  clear hb hg hwa h hB ht hl
  generalize l.length = m at *
  go_enter Tryz.func63, Tryz.ntmps63
  go_wp2_with fail
  rw [← HWE.out]
  exact bodyPost_ret (v := .bool false) (by simp [results, Tryz.results63, go_sem]) rfl ⟨by rw [HO.out], HG.out⟩
 obtain ⟨b, o, xA, xc, yA, yc, zA, zc, rfl, hbB, hc4, _⟩ := h.first hl
 have hl0 : ((l.length : Int) == 0) = false := int_beq_f (by omega)
 have hl1 : (0 : Int) < (l.length : Int) := by omega
 obtain ⟨d0, d1, d2, d3⟩ := hc4.gb hg
 have HD := hide hc4
 have b0a := b0
 rw [hwa] at b0a
 have e0 := d0; have e1 := d1; have e2 := d2; have e3 := d3
 rw [hwa] at e0 e1 e2 e3
 have HKD := hide (fun w2 => (kind_any l[0].t xA l[0].n.length xc yA l[0].s.length yc (.slice zA l[0].l.length zc) w2).mono (fun e w' h => (⟨h.1, h.2⟩ : e = .returned (.int .i64 (kdV l[0])) ∧ w2.grownBy w' none)))
 have HUN := hide (fun w2 (hg2 : wa.grownBy w2 none) => unlike_has l w2 B (some ⟨b, o, none⟩) c ht (Nat.le_trans (Nat.le_trans hB hg.size) hg2.size) (h.gb (gb_trans hg hg2 (.inl rfl)) hB) (kdV l[0]) w.heap.size (fun w3 hg3 x xA' xc' yA' yc' zA' zc' => unlike_any x l[0] w3 xA' xc' yA' yc' zA' zc' xA xc yA yc zA zc w.heap.size b o l.length c hl (cell_gb b0 (gb_trans hg2 hg3 (.inl rfl))) (hc4.gb (gb_trans hg (gb_trans hg2 hg3 (.inl rfl)) (.inl rfl)))))
 have HOD := hide (oneK_def hl)
 clear hb hg hwa h hB ht hc4
 by_cases hk : kdV l[0] = 0
 ·have HO := hide (show oneK l = false by rw [HOD.out, hk]; rfl)
  have hk0 : (kdV l[0] == 0) = true := by simp [hk]
  clear hk
  generalize kdV l[0] = K at *
  go_enter Tryz.func63, Tryz.ntmps63
  go_wp2_with (go_at_call 27; rw [← HWE.out]; refine (HKD.out _).mono ?_; rintro e w1 ⟨rfl, hg1⟩; have HG1 := hide hg1; clear hg1)
  exact bodyPost_ret (v := .bool false) (by simp [results, Tryz.results63, go_sem]) rfl ⟨by rw [HO.out], gb_trans HG.out HG1.out (.inl rfl)⟩
 ·have HO := hide (show oneK l = !(l.any fun x => kdV x != kdV l[0]) by rw [HOD.out, show (kdV l[0] != 0) = true by simp [hk]]; rfl)
  have hk0 : (kdV l[0] == 0) = false := int_beq_f hk
  clear hk
  generalize (l.any fun x => kdV x != kdV l[0]) = bb at *
  generalize kdV l[0] = K at *
  go_enter Tryz.func63, Tryz.ntmps63
  go_wp2_with (first
   | (go_at_call 27; rw [← HWE.out]; refine (HKD.out _).mono ?_; rintro e w1 ⟨rfl, hg1⟩; have HG1 := hide hg1; have b0 := cell_gb b0 hg1; clear hg1)
   | (go_at_call 61; refine (HUN.out _ HG1.out).mono ?_; rintro e w2 ⟨rfl, hg2⟩; have HG2 := hide hg2; clear hg2))
  exact bodyPost_ret (v := .bool !bb) (by simp [results, Tryz.results63, go_sem]) rfl ⟨by rw [HO.out], gb_trans HG.out (gb_trans HG1.out HG2.out (.inl rfl)) (.inl rfl)⟩
def TupV (v : Vl) (w : World) (e : Ending) (w' : World) : Prop := ∃ nA nc sA sc lA lc f, e = .returned (.tuple #[.agg #[.int .i64 v.t, .slice nA v.n.length nc, .slice sA v.s.length sc, .slice lA v.l.length lc], .int .i64 0]) ∧
 VOw w' v [.int .i64 v.t, .slice nA v.n.length nc, .slice sA v.s.length sc, .slice lA v.l.length lc] f ∧ New w w' f ∧ w.grownBy w' none
def widS (l : List Vl) : Nat := (l.map widV).foldr (· + ·) 0
theorem widS_take (l : List Vl) (j : Nat) (h : j < l.length) : widS (l.take (j + 1)) = widS (l.take j) + widV l[j] := by
 rw [List.take_succ_eq_append_getElem h]
 unfold widS
 induction l.take j with
 | nil => simp
 | cons a r ih => simp only [List.cons_append, List.map_cons, List.foldr_cons, ih]; omega
theorem widS_le (l : List Vl) (j : Nat) : widS (l.take j) ≤ widS l := by
 conv => rhs; rw [← List.take_append_drop j l]
 unfold widS
 induction l.take j with
 | nil => simp
 | cons a r ih => simp only [List.cons_append, List.map_cons, List.foldr_cons]; omega
set_option maxHeartbeats 4000000 in
set_option maxRecDepth 100000 in
theorem join_kind (l : List Vl) (K : Int) (n : List Int) (s : List ByteArray) (HNE : Hid (l.flatMap Vl.n = n)) (HSE : Hid (l.flatMap Vl.s = s)) (w : World) (B : Nat) (A : Option Addr) (c : Nat) (hl0 : 0 < l.length) (hk : kdV l[0] = K) (hone : oneK l = true) (hnil : l.any vNl = false) (hw : widS l ≤ 65536) (ht : Vl.tots l ≤ 1200000000) (hB : B ≤ w.heap.size) (h : RdV w B A l) :
  Calls Tryz.prog 26 #[.slice A l.length c] w (TupV (.mk K n s []) w) := by
 have l1 : l.length ≤ 1200000000 := Nat.le_trans (Vl.length_le_tots l) ht
 obtain ⟨wa, hwa⟩ : ∃ wa, wa = w.alloc (.cells #[.int .i64 0, .slice none 0 0, .slice none 0 0, .slice none 0 0] 26) := ⟨_, rfl⟩
 have hb : wa.heap[w.heap.size]? = some (.cells #[.int .i64 0, .slice none 0 0, .slice none 0 0, .slice none 0 0] 26 (0, 0)) := by rw [hwa]; exact heap_alloc_new w _
 have hg : w.grownBy wa none := by rw [hwa]; exact gb_alloc (gb_refl w none) _
 have HB := hide hb
 have HG := hide hg
 have HWE := hide hwa
 have HSZ := hide (show wa.heap.size = w.heap.size + 1 by rw [hwa]; simp)
 have HBB := hide hB
 have HT := hide ht
 have H := hide h
 have HL := hide l1
 have HWS := hide hw
 have HNL := hide (fun w2 (hg : w.grownBy w2 none) => (vNil_has l w2 B A c l1 (Nat.le_trans hB hg.size) (h.gb hg hB)).mono (fun e w' h => (⟨h.1.trans (by rw [hnil]), h.2⟩ : e = .returned (.bool false) ∧ w2.grownBy w' none)))
 have HOK := hide (fun w2 (hg : w.grownBy w2 none) => (ofOneKind_any l w2 B A c l1 (Nat.le_trans hB hg.size) (h.gb hg hB)).mono (fun e w' h => (⟨h.1.trans (by rw [hone]), h.2⟩ : e = .returned (.bool true) ∧ w2.grownBy w' none)))
 have HJ := hide (fun w2 (hg : w.grownBy w2 none) => joined_any l K n s HNE HSE w2 B A c hl0 hk ht (Nat.le_trans hB hg.size) (h.gb hg hB))
 have h13 : decide ((65536 : Int) < (widS l : Int)) = false := decide_eq_false (by omega)
 clear hb hg hwa hB ht h l1 hw hk hone hnil hl0 HNE HSE
 go_enter Tryz.func26, Tryz.ntmps26
 go_wp2_with fail
 rw [← HWE.out]
 go_loopw [4, 13] (fun u i wr => ∃ j : Nat, i = .int .i64 (j : Int) ∧ u = .int .i64 (widS (l.take j) : Nat) ∧ j ≤ l.length ∧ wa.grownBy wr none) (fun _ i _ => l.length - (intOf i).toNat)
 case atStart => exact ⟨0, rfl, rfl, Nat.zero_le _, gb_refl wa none⟩
 case round =>
  obtain ⟨j, rfl, rfl, hj, hgr⟩ := hrel
  by_cases hlt : j < l.length
  ·have hlt1 : (j : Int) < (l.length : Int) := by omega
   obtain ⟨q, p, xA, xc, yA, yc, zA, zc, hA, hqB, hc4, hvb⟩ := H.out.at_ hlt
   subst hA
   have hgw : w.grownBy wr none := gb_trans HG.out hgr (.inl rfl)
   obtain ⟨f0, f1, f2, f3⟩ := hc4.gb hgw
   have hvr := hvb.gb hgw HBB.out
   have hW := widS_take l j hlt
   have hle := widS_le l (j + 1)
   have h6 : IntKind.i64.wrap ((j : Int) + 1) = ((j + 1 : Nat) : Int) := by rw [IntKind.wrap_i64]; have := HL.out; omega
   have h7 : IntKind.i64.wrap ((widS (l.take j) : Int) + (widV l[j] : Int)) = (widS (l.take (j + 1)) : Int) := by rw [IntKind.wrap_i64, hW]; have := HWS.out; omega
   have HWD := hide (fun w2 (hg : wr.grownBy w2 none) => width_any l[j] w2 B xA xc yA yc zA zc (Nat.le_trans (Vl.tot_mem (List.getElem_mem hlt)) HT.out) (by have := HBB.out; have := hgw.size; have := hg.size; omega) (hvr.gb hg (by have := HBB.out; have := hgw.size; omega)))
   have HGR := hide hgr
   have HLT := hide hlt
   have C4n := hide (C4.box wr (.int .i64 l[j].t) (.slice xA l[j].n.length xc) (.slice yA l[j].s.length yc) (.slice zA l[j].l.length zc) 26)
   clear hc4 hvb hgw hvr hW hle hgr hj
   generalize widS (l.take j) = s0 at *
   obtain ⟨s1, hs1⟩ : ∃ s1, s1 = widS (l.take (j + 1)) := ⟨_, rfl⟩
   rw [← hs1] at h7
   have HS1 := hide hs1
   clear hs1
   generalize widV l[j] = s2 at *
   go_wp2_with (go_at_call 60; refine (HWD.out _ (gb_alloc (gb_refl wr none) _)).mono ?_; rintro e w1 ⟨rfl, hg1⟩; have HG1 := hide (gb_trans (gb_alloc (gb_refl wr none) _) hg1 (.inl rfl)); clear hg1)
   go_roundw
   case rel => exact ⟨j + 1, by go_num, by rw [← HS1.out], by have := HLT.out; omega, gb_trans HGR.out HG1.out (.inl rfl)⟩
   case measure => have := HLT.out; simp [intOf]; omega
  ·have hlt1 : ¬ (j : Int) < (l.length : Int) := by omega
   obtain rfl : j = l.length := by omega
   rw [List.take_length]
   have HGR := hide hgr
   have HG2 := hide (gb_trans HG.out hgr (.inl rfl))
   clear hgr hlt hj
   go_wp2_with (first
    | (go_at_call 61; refine (HNL.out _ HG2.out).mono ?_; rintro e w1 ⟨rfl, hg1⟩; have HG3 := hide (gb_trans HG2.out hg1 (.inl rfl)); have HGS := hide (gb_trans HGR.out hg1 (.inl rfl)); clear hg1)
    | (go_at_call 63; refine (HOK.out _ HG3.out).mono ?_; rintro e w2 ⟨rfl, hg2⟩; have HG4 := hide (gb_trans HG3.out hg2 (.inl rfl)); have HGT := hide (gb_trans HGS.out hg2 (.inl rfl)); clear hg2)
    | (go_at_call 64; refine (HJ.out _ HG4.out).mono ?_; rintro e w3 ⟨nA, nc, sA, sc, lA, lc, f, he, ho, hn, hg3⟩; obtain rfl : e = .returned (.agg #[.int .i64 K, .slice nA n.length nc, .slice sA s.length sc, .slice lA 0 lc]) := he; have HO := hide ho; have HN := hide hn; have HG5 := hide (gb_trans HG4.out hg3 (.inl rfl)); have hr2 := blk_keep HB.out (gb_trans HGT.out hg3 (.inl rfl)) (by simp); have HR2 := hide hr2; obtain ⟨z0, z1, z2, z3, y0, y1, y2, y3⟩ := zz4 hr2; clear ho hn hg3 hr2))
   have hb := put_four HR2.out (.int .i64 K) (.slice nA n.length nc) (.slice sA s.length sc) (.slice lA 0 lc)
   have m0 : ((((w3.setCell ⟨w.heap.size, 0, none⟩ (.int .i64 K)).setCell ⟨w.heap.size, 1, none⟩ (.slice nA n.length nc)).setCell ⟨w.heap.size, 2, none⟩ (.slice sA s.length sc)).setCell ⟨w.heap.size, 3, none⟩ (.slice lA 0 lc)).cell? ⟨w.heap.size, 0, none⟩ = some (.int .i64 K) := (blk_cell hb 0).trans rfl
   have m1 : ((((w3.setCell ⟨w.heap.size, 0, none⟩ (.int .i64 K)).setCell ⟨w.heap.size, 1, none⟩ (.slice nA n.length nc)).setCell ⟨w.heap.size, 2, none⟩ (.slice sA s.length sc)).setCell ⟨w.heap.size, 3, none⟩ (.slice lA 0 lc)).cell? ⟨w.heap.size, 1, none⟩ = some (.slice nA n.length nc) := (blk_cell hb 1).trans rfl
   have m2 : ((((w3.setCell ⟨w.heap.size, 0, none⟩ (.int .i64 K)).setCell ⟨w.heap.size, 1, none⟩ (.slice nA n.length nc)).setCell ⟨w.heap.size, 2, none⟩ (.slice sA s.length sc)).setCell ⟨w.heap.size, 3, none⟩ (.slice lA 0 lc)).cell? ⟨w.heap.size, 2, none⟩ = some (.slice sA s.length sc) := (blk_cell hb 2).trans rfl
   have m3 : ((((w3.setCell ⟨w.heap.size, 0, none⟩ (.int .i64 K)).setCell ⟨w.heap.size, 1, none⟩ (.slice nA n.length nc)).setCell ⟨w.heap.size, 2, none⟩ (.slice sA s.length sc)).setCell ⟨w.heap.size, 3, none⟩ (.slice lA 0 lc)).cell? ⟨w.heap.size, 3, none⟩ = some (.slice lA 0 lc) := (blk_cell hb 3).trans rfl
   refine bodyPost_ret (v := .tuple #[.agg #[.int .i64 K, .slice nA n.length nc, .slice sA s.length sc, .slice lA 0 lc], .int .i64 0]) (by simp [results, Tryz.results26, go_sem, m0, m1, m2, m3]) rfl ?_
   have hsz := HGT.out.size
   have hsz2 := HSZ.out
   have hsz3 := HG4.out.size
   refine ⟨nA, nc, sA, sc, lA, lc, f, rfl, ?_, ⟨HN.out.1, fun b hb => ?_⟩, put_four_gb HG5.out (Nat.le_refl _) _ _ _ _⟩
   ·exact VOw.keep _ _ _ HO.out fun b hm => put_four_other (by have := (HN.out.2 b hm).1; omega) _ _ _ _
   ·have h2 := HN.out.2 b hb
    refine ⟨by omega, ?_⟩
    simp [World.setCell]
    exact h2.2
end Go.Proofs.YtbmgodmfpoappaaGreat
namespace Go.Proofs.YtbmgodmfpoappaaGreat
open Go.RowKit
attribute [local go_sem ↓] Go.wp_at_zero Go.wp_at_succ
set_option maxHeartbeats 2000000 in
set_option maxRecDepth 100000 in
theorem num7_any (n : Int) (w : World) : Calls Tryz.prog 9 #[.int .i64 n] w fun e w' => e = .returned (.int .i64 n) ∧ w = w' := by
 go_enter Tryz.func9, Tryz.ntmps9
 go_wp2_with fail
 exact bodyPost_ret (v := .int .i64 n) (by simp [results, Tryz.results9, go_sem]) rfl ⟨rfl, rfl⟩
set_option maxHeartbeats 2000000 in
set_option maxRecDepth 100000 in
theorem vector2_any (l : List Int) (w : World) (A : Option Addr) (c : Nat) (hl : l.length ≤ 1200000000) (hr : Rd w w.heap.size A (i64s l)) :
  Calls Tryz.prog 53 #[.int .i64 2, .slice A l.length c] w (NewV (.mk 2 l [] []) w) := by
 obtain ⟨wa, hwa⟩ : ∃ wa, wa = w.alloc (.cells #[.int .i64 0, .slice none 0 0, .slice none 0 0, .slice none 0 0] 26) := ⟨_, rfl⟩
 have hb : wa.heap[w.heap.size]? = some (.cells #[.int .i64 0, .slice none 0 0, .slice none 0 0, .slice none 0 0] 26 (0, 0)) := by rw [hwa]; exact heap_alloc_new w _
 have hg : w.grownBy wa none := by rw [hwa]; exact gb_alloc (gb_refl w none) _
 have HB := hide hb
 have HG := hide hg
 have HWE := hide hwa
 have HSZ := hide (show wa.heap.size = w.heap.size + 1 by rw [hwa]; simp)
 obtain ⟨i1, hi1, hiz, his, hib⟩ := info_parts Tryz.info64
 have HI1 := hide hi1
 have HIZ := hide hiz
 have HIS := hide his
 have HIB := hide hib
 have hro : (wa.alloc (.cells #[] 2)).ownsRow (w.heap.size + 1) 2 1 (.slice (some ⟨w.heap.size + 1, 0, none⟩) 0 0) 0 [] := by
  have h := World.ownsRow_lit (base := w.heap.size + 1) (e := 2) (size := 1) wa #[] 0 (by rw [HSZ.out]; exact Nat.le_refl _) (by decide) rfl
  rw [HSZ.out] at h
  exact h
 have HO := hide hro
 have hga : w.grownBy (wa.alloc (.cells #[] 2)) none := gb_alloc hg _
 have HGA := hide (show wa.grownBy (wa.alloc (.cells #[] 2)) none from gb_alloc (gb_refl wa none) _)
 have HR2 := hide (hr.grown hga (Nat.le_refl _) (by simp))
 have HL1 : Hid ((i64s l).length = l.length * 1) := hide (by simp [i64s])
 have HOC := hide (i64s_one l)
 have HM1 : Hid (0 + l.length ≤ maxLen) := hide (by unfold maxLen; omega)
 have HMB : Hid ((0 + l.length) * 8 ≤ 140737488355328) := hide (by omega)
 have HBS : Hid (w.heap.size + 1 ≤ (wa.alloc (.cells #[] 2)).heap.size) := hide (by rw [World.size_alloc, HSZ.out]; omega)
 have HLL := hide (Nat.zero_add l.length)
 clear hb hg hwa hr hl hi1 hiz his hib hro hga
 go_enter Tryz.func53, Tryz.ntmps53
 go_wp2_with (at_builtin; rw [← HWE.out]; refine wpList_append_rd _ rfl (.tmp 6) (.tmp 7) 22 rfl (w.heap.size + 1) 2 i1 (.int .i64 0) 1 8 Tryz.underlying22 HI1.out HIZ.out HIS.out HIB.out rfl (Nat.succ_pos 0) (.slice (some ⟨w.heap.size + 1, 0, none⟩) 0 0) 0 [] rfl HO.out w.heap.size A l.length c (i64s l) rfl HL1.out HR2.out HOC.out HM1.out HMB.out HBS.out ?_; intro v5 w5 ho5 hg5 hb5; rw [HLL.out, List.nil_append] at ho5; obtain ⟨N5, nc5, rfl, hnc5⟩ := own_slice ho5; have HO5 := hide ho5; have hgo : (wa.alloc (.cells #[] 2)).grownBy w5 (some (w.heap.size + 1)) := hg5; have HG5 := hide (show wa.grownBy w5 none from gb_trans HGA.out hgo (.inr (.inr ⟨_, rfl, by rw [HSZ.out]; exact Nat.le_refl _⟩))); have hr2 := (HG5.out.block _ (blk_lt HB.out) (by simp)).trans HB.out; have HNC := hide hnc5; have HR5 := hide hr2; obtain ⟨z0, z1, z2, z3, y0, y1, y2, y3⟩ := zz4 hr2; clear ho5 hg5 hb5 hgo hr2 hnc5)
 obtain ⟨f1, o1, b1⟩ := Own.of_row HO5.out
 have hn : New wa w5 (f1 ++ ([] ++ ([] ++ []))) := by
  simp only [List.append_nil]
  refine ⟨?_, fun b hb => ?_⟩
  ·match f1, o1.len with
   | [], _ => simp
   | [x], _ => simp
  ·have := b1 b hb
   have := HSZ.out
   exact ⟨by omega, by omega⟩
 have hb := put_four HR5.out (.int .i64 2) (.slice N5 l.length nc5) (.slice none 0 0) (.slice none 0 0)
 have m0 := blk_cell hb 0
 have m1 := blk_cell hb 1
 have m2 := blk_cell hb 2
 have m3 := blk_cell hb 3
 simp only [List.getElem?_toArray, List.getElem?_cons_zero, List.getElem?_cons_succ] at m0 m1 m2 m3
 refine bodyPost_ret (v := .agg #[.int .i64 2, .slice N5 l.length nc5, .slice none 0 0, .slice none 0 0]) (by simp [results, Tryz.results53, go_sem, m0, m1, m2, m3]) rfl ?_
 exact NewV.of_put (v := .mk 2 l [] []) (f1 := f1) (f2 := []) (f := []) (g := []) (xs := []) HSZ.out HG.out HG5.out HNC.out o1 (Nat.le_refl _) (.inl ⟨rfl, rfl⟩) (Nat.le_refl _) (.inl ⟨rfl, rfl⟩) ⟨rfl, rfl⟩ hn
set_option maxHeartbeats 2000000 in
set_option maxRecDepth 100000 in
theorem ints7_any (l : List Int) (w : World) (A : Option Addr) (c : Nat) (hl : l.length ≤ 1200000000) (hr : Rd w w.heap.size A (i64s l)) :
  Calls Tryz.prog 23 #[.slice A l.length c] w (NewV (.mk 2 l [] []) w) := by
 obtain ⟨wa, hwa⟩ : ∃ wa, wa = w.alloc (.cells #[.int .i64 0, .slice none 0 0, .slice none 0 0, .slice none 0 0] 26) := ⟨_, rfl⟩
 have hb : wa.heap[w.heap.size]? = some (.cells #[.int .i64 0, .slice none 0 0, .slice none 0 0, .slice none 0 0] 26 (0, 0)) := by rw [hwa]; exact heap_alloc_new w _
 have hg : w.grownBy wa none := by rw [hwa]; exact gb_alloc (gb_refl w none) _
 have HB := hide hb
 have HG := hide hg
 have HWE := hide hwa
 have HSZ := hide (show wa.heap.size = w.heap.size + 1 by rw [hwa]; simp)
 have HV := hide (vector2_any l wa A c hl ((hr.grown hg (Nat.le_refl _) (by simp)).more hg.size))
 clear hb hg hwa hr hl
 go_enter Tryz.func23, Tryz.ntmps23
 go_wp2_with (go_at_call 53; rw [← HWE.out]; refine HV.out.mono ?_; rintro e w3 ⟨nA, nc, sA, sc, lA, lc, f, he, ho, hn, hg3⟩; obtain rfl : e = .returned (.agg #[.int .i64 2, .slice nA l.length nc, .slice sA 0 sc, .slice lA 0 lc]) := he; have HO := hide ho; have HN := hide hn; have HG5 := hide (gb_trans HG.out hg3 (.inl rfl)); have hr2 := blk_keep HB.out hg3 (by simp); have HR2 := hide hr2; obtain ⟨z0, z1, z2, z3, y0, y1, y2, y3⟩ := zz4 hr2; clear ho hn hg3 hr2)
 have hb := put_four HR2.out (.int .i64 2) (.slice nA l.length nc) (.slice sA 0 sc) (.slice lA 0 lc)
 have m0 := blk_cell hb 0
 have m1 := blk_cell hb 1
 have m2 := blk_cell hb 2
 have m3 := blk_cell hb 3
 simp only [List.getElem?_toArray, List.getElem?_cons_zero, List.getElem?_cons_succ] at m0 m1 m2 m3
 refine bodyPost_ret (v := .agg #[.int .i64 2, .slice nA l.length nc, .slice sA 0 sc, .slice lA 0 lc]) (by simp [results, Tryz.results23, go_sem, m0, m1, m2, m3]) rfl ?_
 have hsz := HSZ.out
 refine ⟨nA, nc, sA, sc, lA, lc, f, rfl, ?_, ⟨HN.out.1, fun b hb => ?_⟩, put_four_gb HG5.out (Nat.le_refl _) _ _ _ _⟩
 ·exact VOw.keep _ _ _ HO.out fun b hm => put_four_other (by have := (HN.out.2 b hm).1; omega) _ _ _ _
 ·have h2 := HN.out.2 b hb
  refine ⟨by omega, ?_⟩
  simp [World.setCell]
  exact h2.2
end Go.Proofs.YtbmgodmfpoappaaGreat
namespace Go.Proofs.YtbmgodmfpoappaaGreat
open Go.RowKit
attribute [local go_sem ↓] Go.wp_at_zero Go.wp_at_succ
theorem rd_lit (w : World) (cs : Array Value) (t : TypeId) (xs : List Value) (h : xs = cs.toList) : Rd (w.alloc (.cells cs t)) (w.alloc (.cells cs t)).heap.size (some ⟨w.heap.size, 0, none⟩) xs :=
 (Rd.new w cs t xs h).more (by rw [World.size_alloc]; exact Nat.le_refl _)
theorem ints_new (l : List Int) (cs : Array Value) (hcs : i64s l = cs.toList) (n : Nat) (hn : l.length = n) (w : World) (hl : l.length ≤ 1200000000) :
  Calls Tryz.prog 23 #[.slice (some ⟨w.heap.size, 0, none⟩) n n] (w.alloc (.cells cs 2)) fun e w' => ∃ nA nc sA sc lA lc, e = .returned (.agg #[.int .i64 2, .slice nA n nc, .slice sA 0 sc, .slice lA 0 lc]) ∧ VB w' w'.heap.size (.mk 2 l [] []) nA nc sA sc lA lc ∧ w.grownBy w' none := by
 subst hn
 refine (ints7_any l _ _ _ hl (rd_lit w cs _ _ hcs)).mono ?_
 rintro e w' ⟨nA, nc, sA, sc, lA, lc, f, he, ho, _, hg⟩
 exact ⟨nA, nc, sA, sc, lA, lc, he, ho.vb, gb_trans (gb_alloc (gb_refl w none) _) hg (.inl rfl)⟩
theorem atom_new (n : Int) (w : World) : Calls Tryz.prog 24 #[.int .i64 2, .int .i64 n] w fun e w' => ∃ nA nc sA sc lA lc, e = .returned (.agg #[.int .i64 (-2), .slice nA 1 nc, .slice sA 0 sc, .slice lA 0 lc]) ∧ VB w' w'.heap.size (.mk (-2) [n] [] []) nA nc sA sc lA lc ∧ w.grownBy w' none := by
 refine (rAtomI_any n w).mono ?_
 rintro e w' ⟨nA, nc, sA, sc, lA, lc, f, he, ho, _, hg⟩
 exact ⟨nA, nc, sA, sc, lA, lc, he, ho.vb, hg⟩
theorem DoR.lit {t : Int} {l : List Int} {w w' : World} {e : Ending} (n : Nat) (hn : l.length = n) (h : DoR (.ok (t, l)) w e w') :
  ∃ A c, e = .returned (.tuple #[.agg #[.int .i64 t, .slice A n c, .slice none 0 0, .slice none 0 0], .int .i64 0]) ∧ VB w' w'.heap.size (.mk t l [] []) A c none 0 none 0 ∧ w.grownBy w' none := by
 subst hn
 obtain ⟨hg, A, c, hlc, rfl, ho⟩ := h
 exact ⟨A, c, rfl, ⟨Rd.of_own ho, Rd.nil_, ⟨[], Rd.nil_, rfl⟩, hlc, Nat.le_refl _, Nat.le_refl _⟩, hg⟩
theorem rdV_two {w : World} {a b : Vl} {aA : Option Addr} {ac : Nat} {bA : Option Addr} {bc : Nat} {cA : Option Addr} {cc : Nat} {dA : Option Addr} {dc : Nat} {eA : Option Addr} {ec : Nat} {fA : Option Addr} {fc : Nat}
  (ha : VB w w.heap.size a aA ac bA bc cA cc) (hb : VB w w.heap.size b dA dc eA ec fA fc) :
  RdV (w.alloc (.cells #[.int .i64 a.t, .slice aA a.n.length ac, .slice bA a.s.length bc, .slice cA a.l.length cc, .int .i64 b.t, .slice dA b.n.length dc, .slice eA b.s.length ec, .slice fA b.l.length fc] 26))
   (w.alloc (.cells #[.int .i64 a.t, .slice aA a.n.length ac, .slice bA a.s.length bc, .slice cA a.l.length cc, .int .i64 b.t, .slice dA b.n.length dc, .slice eA b.s.length ec, .slice fA b.l.length fc] 26)).heap.size (some ⟨w.heap.size, 0, none⟩) [a, b] := by
 have hg := gb_alloc (gb_refl w none) (.cells #[.int .i64 a.t, .slice aA a.n.length ac, .slice bA a.s.length bc, .slice cA a.l.length cc, .int .i64 b.t, .slice dA b.n.length dc, .slice eA b.s.length ec, .slice fA b.l.length fc] 26)
 exact ⟨[[.int .i64 a.t, .slice aA a.n.length ac, .slice bA a.s.length bc, .slice cA a.l.length cc], [.int .i64 b.t, .slice dA b.n.length dc, .slice eA b.s.length ec, .slice fA b.l.length fc]], rd_lit w _ _ _ rfl,
  ⟨_, _, rfl, ((ha.gb hg (Nat.le_refl _)).up hg.size).at_, _, _, rfl, ((hb.gb hg (Nat.le_refl _)).up hg.size).at_, rfl⟩⟩
theorem rd_blk {w : World} {b : Nat} {cs : Array Value} {t : TypeId} {l : List Value} (h : w.heap[b]? = some (.cells cs t (0, 0))) (hl : l = cs.toList) : Rd w w.heap.size (some ⟨b, 0, none⟩) l := by
 intro _
 refine ⟨_, rfl, blk_lt h, fun k v hv => ?_⟩
 have : (⟨b, 0, none⟩ : Addr).add k = ⟨b, k, none⟩ := by unfold Addr.add; split <;> simp_all
 rw [this, blk_cell h]
 rw [hl] at hv
 simpa using hv
def BoxV (w : World) (b : Nat) (v : Vl) : Prop := ∃ nA nc sA sc lA lc, w.heap[b]? = some (.cells #[.int .i64 v.t, .slice nA v.n.length nc, .slice sA v.s.length sc, .slice lA v.l.length lc] 26 (0, 0)) ∧ VB w w.heap.size v nA nc sA sc lA lc
theorem BoxV.gb {w w' : World} {b : Nat} {v : Vl} (h : BoxV w b v) (hg : w.grownBy w' none) : BoxV w' b v := by
 obtain ⟨nA, nc, sA, sc, lA, lc, h1, h2⟩ := h
 exact ⟨nA, nc, sA, sc, lA, lc, blk_keep h1 hg (by simp), (h2.gb hg (Nat.le_refl _)).up hg.size⟩
theorem BoxV.new {w : World} {v : Vl} {nA : Option Addr} {nc : Nat} {sA : Option Addr} {sc : Nat} {lA : Option Addr} {lc : Nat} (h : VB w w.heap.size v nA nc sA sc lA lc) :
  BoxV (w.alloc (.cells #[.int .i64 v.t, .slice nA v.n.length nc, .slice sA v.s.length sc, .slice lA v.l.length lc] 26)) w.heap.size v :=
 ⟨nA, nc, sA, sc, lA, lc, heap_alloc_new w _, (h.gb (gb_alloc (gb_refl w none) _) (Nat.le_refl _)).up (by rw [World.size_alloc]; omega)⟩
theorem intV_lit (t : Int) (l : List Int) (ht : t = 2 ∨ t = -2 ∧ l.length = 1) (hl : l.length ≤ 1000000) (hi : ∀ k ∈ l, I64 k) : IntV (.mk t l [] []) :=
 ⟨ht, hl, hi, by rw [Vl.tot_def]; show 1 + l.length + 0 + 0 + 0 ≤ 1200000000; omega⟩
section
variable (w : World)
theorem iv12 : IntV (Vl.mk (2) [1, 2] [] []) := intV_lit _ _ (by decide) (by decide) (by intro k hk; simp at hk; unfold I64; omega)
theorem iv1020 : IntV (Vl.mk (2) [10, 20] [] []) := intV_lit _ _ (by decide) (by decide) (by intro k hk; simp at hk; unfold I64; omega)
theorem iv7 : IntV (Vl.mk (-2) [-7] [] []) := intV_lit _ _ (by decide) (by decide) (by intro k hk; simp at hk; unfold I64; omega)
theorem iv2 : IntV (Vl.mk (2) [2] [] []) := intV_lit _ _ (by decide) (by decide) (by intro k hk; simp at hk; unfold I64; omega)
theorem ivM : IntV (Vl.mk (-2) [9223372036854775807] [] []) := intV_lit _ _ (by decide) (by decide) (by intro k hk; simp at hk; unfold I64; omega)
theorem iv1 : IntV (Vl.mk (-2) [1] [] []) := intV_lit _ _ (by decide) (by decide) (by intro k hk; simp at hk; unfold I64; omega)
theorem iv123 : IntV (Vl.mk (2) [1, 2, 3] [] []) := intV_lit _ _ (by decide) (by decide) (by intro k hk; simp at hk; unfold I64; omega)
end
theorem ev1 : doI (strictF sumF) (Vl.mk (2) [1, 2] [] []) (Vl.mk (2) [10, 20] [] []) = .ok (2, [11, 22]) := by rfl
theorem ev2 : doI (strictF quoF) (Vl.mk (-2) [-7] [] []) (Vl.mk (2) [2] [] []) = .ok (2, [-4]) := by rfl
theorem ev3 : doI (strictF sumF) (Vl.mk (-2) [9223372036854775807] [] []) (Vl.mk (-2) [1] [] []) = .error 70 := by rfl
theorem ev4 : doI (strictF sumF) (Vl.mk (2) [1, 2] [] []) (Vl.mk (2) [1, 2, 3] [] []) = .error 32 := by rfl
theorem ev5 : ((rowI (min (-3) 0) 3).map fun p => remI p ((2 : Nat) : Int)).map (pickI [1, 2] (-9223372036854775808)) = [2, 1, 2] := by rfl
set_option maxHeartbeats 8000000 in
set_option maxRecDepth 100000 in
theorem live7_any (w : World) : Calls Tryz.prog 5 #[] w fun e w' => e = .returned (.bool true) ∧ w.grownBy w' none := by
 have HG0 := hide (gb_refl w none)
 go_enter Tryz.func5, Tryz.ntmps5
 go_wp2_with fail
 refine (ints_new [1, 2] _ rfl 2 rfl _ (by decide)).mono ?_
 rintro e w1 ⟨nA1, nc1, sA1, sc1, lA1, lc1, rfl, hv1, hg1⟩
 have HGn := hide (gb_trans HG0.out hg1 (.inl rfl))
 clear HG0
 have HG0 := hide HGn.out
 clear HGn hg1
 have HV1 := hide hv1
 clear hv1
 go_wp2_with fail
 refine (ints_new [10, 20] _ rfl 2 rfl _ (by decide)).mono ?_
 rintro e w2 ⟨nA2, nc2, sA2, sc2, lA2, lc2, rfl, hv2, hg2⟩
 have HV1n := hide ((HV1.out.gb hg2 (Nat.le_refl _)).up hg2.size)
 clear HV1
 have HV1 := hide HV1n.out
 clear HV1n
 have HGn := hide (gb_trans HG0.out hg2 (.inl rfl))
 clear HG0
 have HG0 := hide HGn.out
 clear HGn hg2
 have HV2 := hide hv2
 clear hv2
 go_wp2_with fail
 have CD := do_add (Vl.mk (2) [1, 2] [] []) (Vl.mk (2) [10, 20] [] []) _ _ nA1 nc1 sA1 sc1 lA1 lc1 nA2 nc2 sA2 sc2 lA2 lc2 iv12 iv1020 (Nat.le_refl _) HV1.out HV2.out
 rw [ev1] at CD
 refine CD.mono ?_
 clear CD
 clear HV1
 clear HV2
 intro e w3 hd
 obtain ⟨nA3, nc3, rfl, hv3, hg3⟩ := DoR.lit 2 rfl hd
 clear hd
 have HGn := hide (gb_trans HG0.out hg3 (.inl rfl))
 clear HG0
 have HG0 := hide HGn.out
 clear HGn hg3
 have HB3 := hide (BoxV.new hv3)
 clear hv3
 go_wp2_with fail
 obtain ⟨w4, hw4⟩ : ∃ w4, w4 = w3.alloc (.cells #[.int .i64 2, .slice nA3 2 nc3, .slice none 0 0, .slice none 0 0] 26) := ⟨_, rfl⟩
 have hg4 : w3.grownBy w4 none := by rw [hw4]; exact gb_alloc (gb_refl w3 none) _
 have HBA : Hid (BoxV w4 w3.heap.size (Vl.mk (2) [11, 22] [] [])) := hide (by rw [hw4]; exact HB3.out)
 clear HB3
 have HGn := hide (gb_trans HG0.out hg4 (.inl rfl))
 clear HG0
 have HG0 := hide HGn.out
 clear HGn hg4
 have hs4 : w3.heap.size + 1 = w4.heap.size := by rw [hw4, World.size_alloc]
 rw [← hw4]
 try rw [hs4]
 clear hw4 hs4
 refine (atom_new (-7) _).mono ?_
 rintro e w5 ⟨nA5, nc5, sA5, sc5, lA5, lc5, rfl, hv5, hg5⟩
 have HBAn := hide (HBA.out.gb hg5)
 clear HBA
 have HBA := hide HBAn.out
 clear HBAn
 have HGn := hide (gb_trans HG0.out hg5 (.inl rfl))
 clear HG0
 have HG0 := hide HGn.out
 clear HGn hg5
 have HV5 := hide hv5
 clear hv5
 go_wp2_with fail
 refine (ints_new [2] _ rfl 1 rfl _ (by decide)).mono ?_
 rintro e w6 ⟨nA6, nc6, sA6, sc6, lA6, lc6, rfl, hv6, hg6⟩
 have HBAn := hide (HBA.out.gb hg6)
 clear HBA
 have HBA := hide HBAn.out
 clear HBAn
 have HV5n := hide ((HV5.out.gb hg6 (Nat.le_refl _)).up hg6.size)
 clear HV5
 have HV5 := hide HV5n.out
 clear HV5n
 have HGn := hide (gb_trans HG0.out hg6 (.inl rfl))
 clear HG0
 have HG0 := hide HGn.out
 clear HGn hg6
 have HV6 := hide hv6
 clear hv6
 go_wp2_with fail
 have CD := do_divide (Vl.mk (-2) [-7] [] []) (Vl.mk (2) [2] [] []) _ _ nA5 nc5 sA5 sc5 lA5 lc5 nA6 nc6 sA6 sc6 lA6 lc6 iv7 iv2 (Nat.le_refl _) HV5.out HV6.out
 rw [ev2] at CD
 refine CD.mono ?_
 clear CD
 clear HV5
 clear HV6
 intro e w7 hd
 obtain ⟨nA7, nc7, rfl, hv7, hg7⟩ := DoR.lit 1 rfl hd
 clear hd
 have HBAn := hide (HBA.out.gb hg7)
 clear HBA
 have HBA := hide HBAn.out
 clear HBAn
 have HGn := hide (gb_trans HG0.out hg7 (.inl rfl))
 clear HG0
 have HG0 := hide HGn.out
 clear HGn hg7
 have HB7 := hide (BoxV.new hv7)
 clear hv7
 go_wp2_with fail
 obtain ⟨w8, hw8⟩ : ∃ w8, w8 = w7.alloc (.cells #[.int .i64 2, .slice nA7 1 nc7, .slice none 0 0, .slice none 0 0] 26) := ⟨_, rfl⟩
 have hg8 : w7.grownBy w8 none := by rw [hw8]; exact gb_alloc (gb_refl w7 none) _
 have HBB : Hid (BoxV w8 w7.heap.size (Vl.mk (2) [-4] [] [])) := hide (by rw [hw8]; exact HB7.out)
 clear HB7
 have HBAn := hide (HBA.out.gb hg8)
 clear HBA
 have HBA := hide HBAn.out
 clear HBAn
 have HGn := hide (gb_trans HG0.out hg8 (.inl rfl))
 clear HG0
 have HG0 := hide HGn.out
 clear HGn hg8
 have hs8 : w7.heap.size + 1 = w8.heap.size := by rw [hw8, World.size_alloc]
 rw [← hw8]
 try rw [hs8]
 clear hw8 hs8
 refine (atom_new (9223372036854775807) _).mono ?_
 rintro e w9 ⟨nA9, nc9, sA9, sc9, lA9, lc9, rfl, hv9, hg9⟩
 have HBAn := hide (HBA.out.gb hg9)
 clear HBA
 have HBA := hide HBAn.out
 clear HBAn
 have HBBn := hide (HBB.out.gb hg9)
 clear HBB
 have HBB := hide HBBn.out
 clear HBBn
 have HGn := hide (gb_trans HG0.out hg9 (.inl rfl))
 clear HG0
 have HG0 := hide HGn.out
 clear HGn hg9
 have HV9 := hide hv9
 clear hv9
 go_wp2_with fail
 refine (atom_new (1) _).mono ?_
 rintro e w10 ⟨nA10, nc10, sA10, sc10, lA10, lc10, rfl, hv10, hg10⟩
 have HBAn := hide (HBA.out.gb hg10)
 clear HBA
 have HBA := hide HBAn.out
 clear HBAn
 have HBBn := hide (HBB.out.gb hg10)
 clear HBB
 have HBB := hide HBBn.out
 clear HBBn
 have HV9n := hide ((HV9.out.gb hg10 (Nat.le_refl _)).up hg10.size)
 clear HV9
 have HV9 := hide HV9n.out
 clear HV9n
 have HGn := hide (gb_trans HG0.out hg10 (.inl rfl))
 clear HG0
 have HG0 := hide HGn.out
 clear HGn hg10
 have HV10 := hide hv10
 clear hv10
 go_wp2_with fail
 have CD := do_add (Vl.mk (-2) [9223372036854775807] [] []) (Vl.mk (-2) [1] [] []) _ _ nA9 nc9 sA9 sc9 lA9 lc9 nA10 nc10 sA10 sc10 lA10 lc10 ivM iv1 (Nat.le_refl _) HV9.out HV10.out
 rw [ev3] at CD
 refine CD.mono ?_
 clear CD
 clear HV9
 clear HV10
 rintro e w11 ⟨hg11, rfl⟩
 have HBAn := hide (HBA.out.gb hg11)
 clear HBA
 have HBA := hide HBAn.out
 clear HBAn
 have HBBn := hide (HBB.out.gb hg11)
 clear HBB
 have HBB := hide HBBn.out
 clear HBBn
 have HGn := hide (gb_trans HG0.out hg11 (.inl rfl))
 clear HG0
 have HG0 := hide HGn.out
 clear HGn hg11
 go_wp2_with fail
 obtain ⟨w12, hw12⟩ : ∃ w12, w12 = w11.alloc (.cells #[.int .i64 0, .slice none 0 0, .slice none 0 0, .slice none 0 0] 26) := ⟨_, rfl⟩
 have hg12 : w11.grownBy w12 none := by rw [hw12]; exact gb_alloc (gb_refl w11 none) _
 have HBAn := hide (HBA.out.gb hg12)
 clear HBA
 have HBA := hide HBAn.out
 clear HBAn
 have HBBn := hide (HBB.out.gb hg12)
 clear HBB
 have HBB := hide HBBn.out
 clear HBBn
 have HGn := hide (gb_trans HG0.out hg12 (.inl rfl))
 clear HG0
 have HG0 := hide HGn.out
 clear HGn hg12
 have hs12 : w11.heap.size + 1 = w12.heap.size := by rw [hw12, World.size_alloc]
 rw [← hw12]
 try rw [hs12]
 clear hw12 hs12
 refine (ints_new [1, 2] _ rfl 2 rfl _ (by decide)).mono ?_
 rintro e w13 ⟨nA13, nc13, sA13, sc13, lA13, lc13, rfl, hv13, hg13⟩
 have HBAn := hide (HBA.out.gb hg13)
 clear HBA
 have HBA := hide HBAn.out
 clear HBAn
 have HBBn := hide (HBB.out.gb hg13)
 clear HBB
 have HBB := hide HBBn.out
 clear HBBn
 have HGn := hide (gb_trans HG0.out hg13 (.inl rfl))
 clear HG0
 have HG0 := hide HGn.out
 clear HGn hg13
 have HV13 := hide hv13
 clear hv13
 go_wp2_with fail
 refine (ints_new [1, 2, 3] _ rfl 3 rfl _ (by decide)).mono ?_
 rintro e w14 ⟨nA14, nc14, sA14, sc14, lA14, lc14, rfl, hv14, hg14⟩
 have HBAn := hide (HBA.out.gb hg14)
 clear HBA
 have HBA := hide HBAn.out
 clear HBAn
 have HBBn := hide (HBB.out.gb hg14)
 clear HBB
 have HBB := hide HBBn.out
 clear HBBn
 have HV13n := hide ((HV13.out.gb hg14 (Nat.le_refl _)).up hg14.size)
 clear HV13
 have HV13 := hide HV13n.out
 clear HV13n
 have HGn := hide (gb_trans HG0.out hg14 (.inl rfl))
 clear HG0
 have HG0 := hide HGn.out
 clear HGn hg14
 have HV14 := hide hv14
 clear hv14
 go_wp2_with fail
 have CD := do_add (Vl.mk (2) [1, 2] [] []) (Vl.mk (2) [1, 2, 3] [] []) _ _ nA13 nc13 sA13 sc13 lA13 lc13 nA14 nc14 sA14 sc14 lA14 lc14 iv12 iv123 (Nat.le_refl _) HV13.out HV14.out
 rw [ev4] at CD
 refine CD.mono ?_
 clear CD
 clear HV13
 clear HV14
 rintro e w15 ⟨hg15, rfl⟩
 have HBAn := hide (HBA.out.gb hg15)
 clear HBA
 have HBA := hide HBAn.out
 clear HBAn
 have HBBn := hide (HBB.out.gb hg15)
 clear HBB
 have HBB := hide HBBn.out
 clear HBBn
 have HGn := hide (gb_trans HG0.out hg15 (.inl rfl))
 clear HG0
 have HG0 := hide HGn.out
 clear HGn hg15
 go_wp2_with fail
 obtain ⟨w16, hw16⟩ : ∃ w16, w16 = w15.alloc (.cells #[.int .i64 0, .slice none 0 0, .slice none 0 0, .slice none 0 0] 26) := ⟨_, rfl⟩
 have hg16 : w15.grownBy w16 none := by rw [hw16]; exact gb_alloc (gb_refl w15 none) _
 have HBAn := hide (HBA.out.gb hg16)
 clear HBA
 have HBA := hide HBAn.out
 clear HBAn
 have HBBn := hide (HBB.out.gb hg16)
 clear HBB
 have HBB := hide HBBn.out
 clear HBBn
 have HGn := hide (gb_trans HG0.out hg16 (.inl rfl))
 clear HG0
 have HG0 := hide HGn.out
 clear HGn hg16
 have hs16 : w15.heap.size + 1 = w16.heap.size := by rw [hw16, World.size_alloc]
 rw [← hw16]
 try rw [hs16]
 clear hw16 hs16
 refine (ints_new [1, 2] _ rfl 2 rfl _ (by decide)).mono ?_
 rintro e w17 ⟨nA17, nc17, sA17, sc17, lA17, lc17, rfl, hv17, hg17⟩
 have HBAn := hide (HBA.out.gb hg17)
 clear HBA
 have HBA := hide HBAn.out
 clear HBAn
 have HBBn := hide (HBB.out.gb hg17)
 clear HBB
 have HBB := hide HBBn.out
 clear HBBn
 have HGn := hide (gb_trans HG0.out hg17 (.inl rfl))
 clear HG0
 have HG0 := hide HGn.out
 clear HGn hg17
 have HV17 := hide hv17
 clear hv17
 go_wp2_with fail
 have CT := take_ints (-3) 3 (Vl.mk (2) [1, 2] [] []) _ _ nA17 nc17 sA17 sc17 lA17 lc17 iv12 rfl (Nat.le_refl _) HV17.out (by decide) rfl
 rw [show (((rowI (min (-3) 0) 3).map fun p => remI p (((Vl.mk (2) [1, 2] [] []).n.length : Nat) : Int)).map (pickI (Vl.mk (2) [1, 2] [] []).n (-9223372036854775808))) = [2, 1, 2] from ev5] at CT
 refine CT.mono ?_
 clear CT
 clear HV17
 intro e w18 hd
 obtain ⟨nA18, nc18, rfl, hv18, hg18⟩ := DoR.lit 3 rfl hd
 clear hd
 have HBAn := hide (HBA.out.gb hg18)
 clear HBA
 have HBA := hide HBAn.out
 clear HBAn
 have HBBn := hide (HBB.out.gb hg18)
 clear HBB
 have HBB := hide HBBn.out
 clear HBBn
 have HGn := hide (gb_trans HG0.out hg18 (.inl rfl))
 clear HG0
 have HG0 := hide HGn.out
 clear HGn hg18
 have HB18 := hide (BoxV.new hv18)
 clear hv18
 go_wp2_with fail
 obtain ⟨w19, hw19⟩ : ∃ w19, w19 = w18.alloc (.cells #[.int .i64 2, .slice nA18 3 nc18, .slice none 0 0, .slice none 0 0] 26) := ⟨_, rfl⟩
 have hg19 : w18.grownBy w19 none := by rw [hw19]; exact gb_alloc (gb_refl w18 none) _
 have HBC : Hid (BoxV w19 w18.heap.size (Vl.mk (2) [2, 1, 2] [] [])) := hide (by rw [hw19]; exact HB18.out)
 clear HB18
 have HBAn := hide (HBA.out.gb hg19)
 clear HBA
 have HBA := hide HBAn.out
 clear HBAn
 have HBBn := hide (HBB.out.gb hg19)
 clear HBB
 have HBB := hide HBBn.out
 clear HBBn
 have HGn := hide (gb_trans HG0.out hg19 (.inl rfl))
 clear HG0
 have HG0 := hide HGn.out
 clear HGn hg19
 have hs19 : w18.heap.size + 1 = w19.heap.size := by rw [hw19, World.size_alloc]
 rw [← hw19]
 try rw [hs19]
 clear hw19 hs19
 refine (atom_new (1) _).mono ?_
 rintro e w20 ⟨nA20, nc20, sA20, sc20, lA20, lc20, rfl, hv20, hg20⟩
 have HBAn := hide (HBA.out.gb hg20)
 clear HBA
 have HBA := hide HBAn.out
 clear HBAn
 have HBBn := hide (HBB.out.gb hg20)
 clear HBB
 have HBB := hide HBBn.out
 clear HBBn
 have HBCn := hide (HBC.out.gb hg20)
 clear HBC
 have HBC := hide HBCn.out
 clear HBCn
 have HGn := hide (gb_trans HG0.out hg20 (.inl rfl))
 clear HG0
 have HG0 := hide HGn.out
 clear HGn hg20
 have HV20 := hide hv20
 clear hv20
 go_wp2_with fail
 refine (ints_new [2, 3] _ rfl 2 rfl _ (by decide)).mono ?_
 rintro e w21 ⟨nA21, nc21, sA21, sc21, lA21, lc21, rfl, hv21, hg21⟩
 have HBAn := hide (HBA.out.gb hg21)
 clear HBA
 have HBA := hide HBAn.out
 clear HBAn
 have HBBn := hide (HBB.out.gb hg21)
 clear HBB
 have HBB := hide HBBn.out
 clear HBBn
 have HBCn := hide (HBC.out.gb hg21)
 clear HBC
 have HBC := hide HBCn.out
 clear HBCn
 have HV20n := hide ((HV20.out.gb hg21 (Nat.le_refl _)).up hg21.size)
 clear HV20
 have HV20 := hide HV20n.out
 clear HV20n
 have HGn := hide (gb_trans HG0.out hg21 (.inl rfl))
 clear HG0
 have HG0 := hide HGn.out
 clear HGn hg21
 have HV21 := hide hv21
 clear hv21
 go_wp2_with fail
 have hrv := rdV_two HV20.out HV21.out
 obtain ⟨w22, hw22⟩ : ∃ w22, w22 = w21.alloc (.cells #[.int .i64 (-2), .slice nA20 1 nc20, .slice sA20 0 sc20, .slice lA20 0 lc20, .int .i64 2, .slice nA21 2 nc21, .slice sA21 0 sc21, .slice lA21 0 lc21] 26) := ⟨_, rfl⟩
 have hrv : RdV w22 w22.heap.size (some ⟨w21.heap.size, 0, none⟩) [(Vl.mk (-2) [1] [] []), (Vl.mk (2) [2, 3] [] [])] := by rw [hw22]; exact hrv
 have hg22 : w21.grownBy w22 none := by rw [hw22]; exact gb_alloc (gb_refl _ none) _
 clear HV20
 clear HV21
 have HBAn := hide (HBA.out.gb hg22)
 clear HBA
 have HBA := hide HBAn.out
 clear HBAn
 have HBBn := hide (HBB.out.gb hg22)
 clear HBB
 have HBB := hide HBBn.out
 clear HBBn
 have HBCn := hide (HBC.out.gb hg22)
 clear HBC
 have HBC := hide HBCn.out
 clear HBCn
 have HGn := hide (gb_trans HG0.out hg22 (.inl rfl))
 clear HG0
 have HG0 := hide HGn.out
 clear HGn hg22
 rw [← hw22]
 clear hw22
 have CJ := join_kind [(Vl.mk (-2) [1] [] []), (Vl.mk (2) [2, 3] [] [])] 2 [1, 2, 3] [] (hide rfl) (hide rfl) w22 w22.heap.size (some ⟨w21.heap.size, 0, none⟩) 2 (by decide) rfl (by decide) (by decide) (by decide) (by decide) (Nat.le_refl _) hrv
 refine CJ.mono ?_
 clear CJ hrv
 rintro e w23 ⟨nA23, nc23, sA23, sc23, lA23, lc23, f, he, ho, _, hg23⟩
 obtain rfl : e = .returned (.tuple #[.agg #[.int .i64 2, .slice nA23 3 nc23, .slice sA23 0 sc23, .slice lA23 0 lc23], .int .i64 0]) := he
 have hv23 := ho.vb
 clear ho
 have HBAn := hide (HBA.out.gb hg23)
 clear HBA
 have HBA := hide HBAn.out
 clear HBAn
 have HBBn := hide (HBB.out.gb hg23)
 clear HBB
 have HBB := hide HBBn.out
 clear HBBn
 have HBCn := hide (HBC.out.gb hg23)
 clear HBC
 have HBC := hide HBCn.out
 clear HBCn
 have HGn := hide (gb_trans HG0.out hg23 (.inl rfl))
 clear HG0
 have HG0 := hide HGn.out
 clear HGn hg23
 have HB23 := hide (BoxV.new hv23)
 clear hv23
 go_wp2_with fail
 obtain ⟨w24, hw24⟩ : ∃ w24, w24 = w23.alloc (.cells #[.int .i64 2, .slice nA23 3 nc23, .slice sA23 0 sc23, .slice lA23 0 lc23] 26) := ⟨_, rfl⟩
 have hg24 : w23.grownBy w24 none := by rw [hw24]; exact gb_alloc (gb_refl w23 none) _
 have HBD : Hid (BoxV w24 w23.heap.size (Vl.mk (2) [1, 2, 3] [] [])) := hide (by rw [hw24]; exact HB23.out)
 clear HB23
 have HBAn := hide (HBA.out.gb hg24)
 clear HBA
 have HBA := hide HBAn.out
 clear HBAn
 have HBBn := hide (HBB.out.gb hg24)
 clear HBB
 have HBB := hide HBBn.out
 clear HBBn
 have HBCn := hide (HBC.out.gb hg24)
 clear HBC
 have HBC := hide HBCn.out
 clear HBCn
 have HGn := hide (gb_trans HG0.out hg24 (.inl rfl))
 clear HG0
 have HG0 := hide HGn.out
 clear HGn hg24
 have hs24 : w23.heap.size + 1 = w24.heap.size := by rw [hw24, World.size_alloc]
 rw [← hw24]
 try rw [hs24]
 clear hw24 hs24
 refine wp_region_facts' 52 (by kernel_rfl) (by kernel_rfl) ?_
 intro A O W L HA HO HW HL
 simp only [List.take_succ_cons, List.take_zero]
 have HS := hide (show A.tmps.size = 108 by rw [HA.out]; rfl)
 have HGW := hide (show w24.grownBy W none by rw [HW.out]; exact gb_drew (gb_refl w24 none))
 have A1 := hide (show A.eval (.tmp 1) = .pointer (some ⟨w3.heap.size, 0, none⟩) by rw [HA.out]; rfl)
 have A3 := hide (show A.eval (.tmp 3) = .pointer (some ⟨w7.heap.size, 0, none⟩) by rw [HA.out]; rfl)
 have A9 := hide (show A.eval (.tmp 9) = .pointer (some ⟨w18.heap.size, 0, none⟩) by rw [HA.out]; rfl)
 have A11 := hide (show A.eval (.tmp 11) = .pointer (some ⟨w23.heap.size, 0, none⟩) by rw [HA.out]; rfl)
 have A2 := hide (show A.eval (.tmp 2) = .int .i64 0 by rw [HA.out]; rfl)
 have A4 := hide (show A.eval (.tmp 4) = .int .i64 0 by rw [HA.out]; rfl)
 have A6 := hide (show A.eval (.tmp 6) = .int .i64 70 by rw [HA.out]; rfl)
 have A8 := hide (show A.eval (.tmp 8) = .int .i64 32 by rw [HA.out]; rfl)
 have A10 := hide (show A.eval (.tmp 10) = .int .i64 0 by rw [HA.out]; rfl)
 have A12 := hide (show A.eval (.tmp 12) = .int .i64 0 by rw [HA.out]; rfl)
 refine wpFacts_step (ValF (Vl.mk (2) [11, 22] [] [])) rfl (ValF.up _) ?_ ?_
 ·intro a wq hw hl
  have e1 : a.tmps[1]?.getD undef = .pointer (some ⟨w3.heap.size, 0, none⟩) := (hl 1 (by first | (simp [Op.operands]; done) | simp [Op.operands, Call.operands]) (by rw [HS.out]; decide)).trans A1.out
  obtain ⟨nA, nc, sA, sc, lA, lc, hb, hv⟩ := HBA.out.gb (gb_trans HGW.out hw (.inl rfl))
  have c0 : wq.cell? ⟨w3.heap.size, 0, none⟩ = some (.int .i64 2) := by rw [blk_cell hb]; rfl
  have c1 : wq.cell? ⟨w3.heap.size, 1, none⟩ = some (.slice nA 2 nc) := by rw [blk_cell hb]; rfl
  have c2 : wq.cell? ⟨w3.heap.size, 2, none⟩ = some (.slice sA 0 sc) := by rw [blk_cell hb]; rfl
  have c3 : wq.cell? ⟨w3.heap.size, 3, none⟩ = some (.slice lA 0 lc) := by rw [blk_cell hb]; rfl
  clear hb
  clear hl
  go_simp
  exact ⟨gb_refl _ none, nA, nc, sA, sc, lA, lc, rfl, hv⟩
 refine wpFacts_step (RowF w24.heap.size 2 #[.int .i64 11, .int .i64 22] 2) rfl (RowF.up _ _ _ _) ?_ ?_
 ·intro a wq hw hl
  clear hl
  go_simp
  exact RowF.new _ _ (Nat.le_trans HGW.out.size hw.size)
 refine wpFacts_step (ValF (Vl.mk (2) [11, 22] [] [])) rfl (ValF.up _) ?_ ?_
 ·intro a wq hw hl
  have h57 : (RowF w24.heap.size 2 #[.int .i64 11, .int .i64 22] 2) (a.tmps[57]?.getD undef) wq := hl 57 (by first | (simp [Op.operands]; done) | simp [Op.operands, Call.operands]) (by rw [HS.out]; decide)
  obtain ⟨rb, e57, hrb, _⟩ := h57
  clear hl
  go_simp
  refine ⟨gb_refl _ none, (ints7_any [11, 22] wq (some ⟨rb, 0, none⟩) 2 (by decide) (rd_blk hrb rfl)).mono fun _ _ h => ?_⟩
  obtain ⟨x9, h1, h2, h3⟩ := ValF.of_new h
  exact ⟨x9, h1, h2, h3⟩
 refine wpFacts_step (fun vq _ => vq = .bool true) rfl (Lit.up _) ?_ ?_
 ·intro a wq hw hl
  have h56 : (ValF (Vl.mk (2) [11, 22] [] [])) (a.tmps[56]?.getD undef) wq := hl 56 (by first | (simp [Op.operands]; done) | simp [Op.operands, Call.operands]) (by rw [HS.out]; decide)
  obtain ⟨nA, nc, sA, sc, lA, lc, e56, hv⟩ := h56
  have h58 : (ValF (Vl.mk (2) [11, 22] [] [])) (a.tmps[58]?.getD undef) wq := hl 58 (by first | (simp [Op.operands]; done) | simp [Op.operands, Call.operands]) (by rw [HS.out]; decide)
  obtain ⟨mA, mc, tA, tc, kA, kc, e58, hv2⟩ := h58
  clear hl
  go_simp
  exact gUpon_lit ((rMatch_any (Vl.mk (2) [11, 22] [] []) (Vl.mk (2) [11, 22] [] []) wq wq.heap.size nA nc sA sc lA lc mA mc tA tc kA kc (by decide) (by decide) (Nat.le_refl _) hv hv2).mono fun _ _ h => ⟨h.1.trans (by rw [show Vl.same (Vl.mk (2) [11, 22] [] []) (Vl.mk (2) [11, 22] [] []) = true by decide]), h.2⟩)
 refine wpFacts_lit (.bool true) rfl ?_ ?_
 ·intro a wq hw hl
  have e59 : a.tmps[59]?.getD undef = .bool true := hl 59 (by first | (simp [Op.operands]; done) | simp [Op.operands, Call.operands]) (by rw [HS.out]; decide)
  clear hl
  go_simp
 refine wpFacts_litG (.int .i64 0) 4 true 60 rfl (by rw [HO.out]; rfl) (by rw [HS.out]; decide) (fun _ _ h => h) ?_ ?_
 ·intro a wq hw hl
  have e2 : a.tmps[2]?.getD undef = .int .i64 0 := (hl 2 (by first | (simp [Op.operands]; done) | simp [Op.operands, Call.operands]) (by rw [HS.out]; decide)).trans A2.out
  clear hl
  go_simp
 refine wpFacts_stepG (fun vq _ => vq = .int .i64 0) 4 true 60 rfl (by rw [HO.out]; rfl) (by rw [HS.out]; decide) (fun _ _ h => h) (Lit.up _) ?_ ?_
 ·intro a wq hw hl
  have e61 : a.tmps[61]?.getD undef = .int .i64 0 := hl 61 (by first | (simp [Op.operands]; done) | simp [Op.operands, Call.operands]) (by rw [HS.out]; decide)
  clear hl
  go_simp
  exact gUpon_same (num7_any _ _)
 refine wpFacts_litG (.bool true) 4 true 60 rfl (by rw [HO.out]; rfl) (by rw [HS.out]; decide) (fun _ _ h => h) ?_ ?_
 ·intro a wq hw hl
  have e62 : a.tmps[62]?.getD undef = .int .i64 0 := hl 62 (by first | (simp [Op.operands]; done) | simp [Op.operands, Call.operands]) (by rw [HS.out]; decide)
  clear hl
  go_simp
 refine wpFacts_lit (.bool true) rfl ?_ ?_
 ·intro a wq hw hl
  have e60 : a.tmps[60]?.getD undef = .bool true := hl 60 (by first | (simp [Op.operands]; done) | simp [Op.operands, Call.operands]) (by rw [HS.out]; decide)
  have e63 : a.tmps[63]?.getD undef = .bool true := hl 63 (by first | (simp [Op.operands]; done) | simp [Op.operands, Call.operands]) (by rw [HS.out]; decide)
  clear hl
  go_simp
 refine wpFacts_lit (.bool true) rfl ?_ ?_
 ·intro a wq hw hl
  have e64 : a.tmps[64]?.getD undef = .bool true := hl 64 (by first | (simp [Op.operands]; done) | simp [Op.operands, Call.operands]) (by rw [HS.out]; decide)
  clear hl
  go_simp
 refine wpFacts_stepG (ValF (Vl.mk (2) [-4] [] [])) 9 true 65 rfl (by rw [HO.out]; rfl) (by rw [HS.out]; decide) (fun _ _ h => h) (ValF.up _) ?_ ?_
 ·intro a wq hw hl
  have e3 : a.tmps[3]?.getD undef = .pointer (some ⟨w7.heap.size, 0, none⟩) := (hl 3 (by first | (simp [Op.operands]; done) | simp [Op.operands, Call.operands]) (by rw [HS.out]; decide)).trans A3.out
  obtain ⟨nA, nc, sA, sc, lA, lc, hb, hv⟩ := HBB.out.gb (gb_trans HGW.out hw (.inl rfl))
  have c0 : wq.cell? ⟨w7.heap.size, 0, none⟩ = some (.int .i64 2) := by rw [blk_cell hb]; rfl
  have c1 : wq.cell? ⟨w7.heap.size, 1, none⟩ = some (.slice nA 1 nc) := by rw [blk_cell hb]; rfl
  have c2 : wq.cell? ⟨w7.heap.size, 2, none⟩ = some (.slice sA 0 sc) := by rw [blk_cell hb]; rfl
  have c3 : wq.cell? ⟨w7.heap.size, 3, none⟩ = some (.slice lA 0 lc) := by rw [blk_cell hb]; rfl
  clear hb
  clear hl
  go_simp
  exact ⟨gb_refl _ none, nA, nc, sA, sc, lA, lc, rfl, hv⟩
 refine wpFacts_stepG (RowF w24.heap.size 1 #[.int .i64 (-4)] 2) 9 true 65 rfl (by rw [HO.out]; rfl) (by rw [HS.out]; decide) (fun _ _ h => h) (RowF.up _ _ _ _) ?_ ?_
 ·intro a wq hw hl
  clear hl
  go_simp
  exact RowF.new _ _ (Nat.le_trans HGW.out.size hw.size)
 refine wpFacts_stepG (ValF (Vl.mk (2) [-4] [] [])) 9 true 65 rfl (by rw [HO.out]; rfl) (by rw [HS.out]; decide) (fun _ _ h => h) (ValF.up _) ?_ ?_
 ·intro a wq hw hl
  have h67 : (RowF w24.heap.size 1 #[.int .i64 (-4)] 2) (a.tmps[67]?.getD undef) wq := hl 67 (by first | (simp [Op.operands]; done) | simp [Op.operands, Call.operands]) (by rw [HS.out]; decide)
  obtain ⟨rb, e67, hrb, _⟩ := h67
  clear hl
  go_simp
  refine ⟨gb_refl _ none, (ints7_any [-4] wq (some ⟨rb, 0, none⟩) 1 (by decide) (rd_blk hrb rfl)).mono fun _ _ h => ?_⟩
  obtain ⟨x9, h1, h2, h3⟩ := ValF.of_new h
  exact ⟨x9, h1, h2, h3⟩
 refine wpFacts_stepG (fun vq _ => vq = .bool true) 9 true 65 rfl (by rw [HO.out]; rfl) (by rw [HS.out]; decide) (fun _ _ h => h) (Lit.up _) ?_ ?_
 ·intro a wq hw hl
  have h66 : (ValF (Vl.mk (2) [-4] [] [])) (a.tmps[66]?.getD undef) wq := hl 66 (by first | (simp [Op.operands]; done) | simp [Op.operands, Call.operands]) (by rw [HS.out]; decide)
  obtain ⟨nA, nc, sA, sc, lA, lc, e66, hv⟩ := h66
  have h68 : (ValF (Vl.mk (2) [-4] [] [])) (a.tmps[68]?.getD undef) wq := hl 68 (by first | (simp [Op.operands]; done) | simp [Op.operands, Call.operands]) (by rw [HS.out]; decide)
  obtain ⟨mA, mc, tA, tc, kA, kc, e68, hv2⟩ := h68
  clear hl
  go_simp
  exact gUpon_lit ((rMatch_any (Vl.mk (2) [-4] [] []) (Vl.mk (2) [-4] [] []) wq wq.heap.size nA nc sA sc lA lc mA mc tA tc kA kc (by decide) (by decide) (Nat.le_refl _) hv hv2).mono fun _ _ h => ⟨h.1.trans (by rw [show Vl.same (Vl.mk (2) [-4] [] []) (Vl.mk (2) [-4] [] []) = true by decide]), h.2⟩)
 refine wpFacts_lit (.bool true) rfl ?_ ?_
 ·intro a wq hw hl
  have e65 : a.tmps[65]?.getD undef = .bool true := hl 65 (by first | (simp [Op.operands]; done) | simp [Op.operands, Call.operands]) (by rw [HS.out]; decide)
  have e69 : a.tmps[69]?.getD undef = .bool true := hl 69 (by first | (simp [Op.operands]; done) | simp [Op.operands, Call.operands]) (by rw [HS.out]; decide)
  clear hl
  go_simp
 refine wpFacts_lit (.bool true) rfl ?_ ?_
 ·intro a wq hw hl
  have e70 : a.tmps[70]?.getD undef = .bool true := hl 70 (by first | (simp [Op.operands]; done) | simp [Op.operands, Call.operands]) (by rw [HS.out]; decide)
  clear hl
  go_simp
 refine wpFacts_litG (.int .i64 0) 15 true 71 rfl (by rw [HO.out]; rfl) (by rw [HS.out]; decide) (fun _ _ h => h) ?_ ?_
 ·intro a wq hw hl
  have e4 : a.tmps[4]?.getD undef = .int .i64 0 := (hl 4 (by first | (simp [Op.operands]; done) | simp [Op.operands, Call.operands]) (by rw [HS.out]; decide)).trans A4.out
  clear hl
  go_simp
 refine wpFacts_stepG (fun vq _ => vq = .int .i64 0) 15 true 71 rfl (by rw [HO.out]; rfl) (by rw [HS.out]; decide) (fun _ _ h => h) (Lit.up _) ?_ ?_
 ·intro a wq hw hl
  have e72 : a.tmps[72]?.getD undef = .int .i64 0 := hl 72 (by first | (simp [Op.operands]; done) | simp [Op.operands, Call.operands]) (by rw [HS.out]; decide)
  clear hl
  go_simp
  exact gUpon_same (num7_any _ _)
 refine wpFacts_litG (.bool true) 15 true 71 rfl (by rw [HO.out]; rfl) (by rw [HS.out]; decide) (fun _ _ h => h) ?_ ?_
 ·intro a wq hw hl
  have e73 : a.tmps[73]?.getD undef = .int .i64 0 := hl 73 (by first | (simp [Op.operands]; done) | simp [Op.operands, Call.operands]) (by rw [HS.out]; decide)
  clear hl
  go_simp
 refine wpFacts_lit (.bool true) rfl ?_ ?_
 ·intro a wq hw hl
  have e71 : a.tmps[71]?.getD undef = .bool true := hl 71 (by first | (simp [Op.operands]; done) | simp [Op.operands, Call.operands]) (by rw [HS.out]; decide)
  have e74 : a.tmps[74]?.getD undef = .bool true := hl 74 (by first | (simp [Op.operands]; done) | simp [Op.operands, Call.operands]) (by rw [HS.out]; decide)
  clear hl
  go_simp
 refine wpFacts_lit (.bool true) rfl ?_ ?_
 ·intro a wq hw hl
  have e75 : a.tmps[75]?.getD undef = .bool true := hl 75 (by first | (simp [Op.operands]; done) | simp [Op.operands, Call.operands]) (by rw [HS.out]; decide)
  clear hl
  go_simp
 refine wpFacts_litG (.int .i64 70) 20 true 76 rfl (by rw [HO.out]; rfl) (by rw [HS.out]; decide) (fun _ _ h => h) ?_ ?_
 ·intro a wq hw hl
  have e6 : a.tmps[6]?.getD undef = .int .i64 70 := (hl 6 (by first | (simp [Op.operands]; done) | simp [Op.operands, Call.operands]) (by rw [HS.out]; decide)).trans A6.out
  clear hl
  go_simp
 refine wpFacts_stepG (fun vq _ => vq = .int .i64 70) 20 true 76 rfl (by rw [HO.out]; rfl) (by rw [HS.out]; decide) (fun _ _ h => h) (Lit.up _) ?_ ?_
 ·intro a wq hw hl
  have e77 : a.tmps[77]?.getD undef = .int .i64 70 := hl 77 (by first | (simp [Op.operands]; done) | simp [Op.operands, Call.operands]) (by rw [HS.out]; decide)
  clear hl
  go_simp
  exact gUpon_same (num7_any _ _)
 refine wpFacts_litG (.bool true) 20 true 76 rfl (by rw [HO.out]; rfl) (by rw [HS.out]; decide) (fun _ _ h => h) ?_ ?_
 ·intro a wq hw hl
  have e78 : a.tmps[78]?.getD undef = .int .i64 70 := hl 78 (by first | (simp [Op.operands]; done) | simp [Op.operands, Call.operands]) (by rw [HS.out]; decide)
  clear hl
  go_simp
 refine wpFacts_lit (.bool true) rfl ?_ ?_
 ·intro a wq hw hl
  have e76 : a.tmps[76]?.getD undef = .bool true := hl 76 (by first | (simp [Op.operands]; done) | simp [Op.operands, Call.operands]) (by rw [HS.out]; decide)
  have e79 : a.tmps[79]?.getD undef = .bool true := hl 79 (by first | (simp [Op.operands]; done) | simp [Op.operands, Call.operands]) (by rw [HS.out]; decide)
  clear hl
  go_simp
 refine wpFacts_lit (.bool true) rfl ?_ ?_
 ·intro a wq hw hl
  have e80 : a.tmps[80]?.getD undef = .bool true := hl 80 (by first | (simp [Op.operands]; done) | simp [Op.operands, Call.operands]) (by rw [HS.out]; decide)
  clear hl
  go_simp
 refine wpFacts_litG (.int .i64 32) 25 true 81 rfl (by rw [HO.out]; rfl) (by rw [HS.out]; decide) (fun _ _ h => h) ?_ ?_
 ·intro a wq hw hl
  have e8 : a.tmps[8]?.getD undef = .int .i64 32 := (hl 8 (by first | (simp [Op.operands]; done) | simp [Op.operands, Call.operands]) (by rw [HS.out]; decide)).trans A8.out
  clear hl
  go_simp
 refine wpFacts_stepG (fun vq _ => vq = .int .i64 32) 25 true 81 rfl (by rw [HO.out]; rfl) (by rw [HS.out]; decide) (fun _ _ h => h) (Lit.up _) ?_ ?_
 ·intro a wq hw hl
  have e82 : a.tmps[82]?.getD undef = .int .i64 32 := hl 82 (by first | (simp [Op.operands]; done) | simp [Op.operands, Call.operands]) (by rw [HS.out]; decide)
  clear hl
  go_simp
  exact gUpon_same (num7_any _ _)
 refine wpFacts_litG (.bool true) 25 true 81 rfl (by rw [HO.out]; rfl) (by rw [HS.out]; decide) (fun _ _ h => h) ?_ ?_
 ·intro a wq hw hl
  have e83 : a.tmps[83]?.getD undef = .int .i64 32 := hl 83 (by first | (simp [Op.operands]; done) | simp [Op.operands, Call.operands]) (by rw [HS.out]; decide)
  clear hl
  go_simp
 refine wpFacts_lit (.bool true) rfl ?_ ?_
 ·intro a wq hw hl
  have e81 : a.tmps[81]?.getD undef = .bool true := hl 81 (by first | (simp [Op.operands]; done) | simp [Op.operands, Call.operands]) (by rw [HS.out]; decide)
  have e84 : a.tmps[84]?.getD undef = .bool true := hl 84 (by first | (simp [Op.operands]; done) | simp [Op.operands, Call.operands]) (by rw [HS.out]; decide)
  clear hl
  go_simp
 refine wpFacts_lit (.bool true) rfl ?_ ?_
 ·intro a wq hw hl
  have e85 : a.tmps[85]?.getD undef = .bool true := hl 85 (by first | (simp [Op.operands]; done) | simp [Op.operands, Call.operands]) (by rw [HS.out]; decide)
  clear hl
  go_simp
 refine wpFacts_stepG (ValF (Vl.mk (2) [2, 1, 2] [] [])) 30 true 86 rfl (by rw [HO.out]; rfl) (by rw [HS.out]; decide) (fun _ _ h => h) (ValF.up _) ?_ ?_
 ·intro a wq hw hl
  have e9 : a.tmps[9]?.getD undef = .pointer (some ⟨w18.heap.size, 0, none⟩) := (hl 9 (by first | (simp [Op.operands]; done) | simp [Op.operands, Call.operands]) (by rw [HS.out]; decide)).trans A9.out
  obtain ⟨nA, nc, sA, sc, lA, lc, hb, hv⟩ := HBC.out.gb (gb_trans HGW.out hw (.inl rfl))
  have c0 : wq.cell? ⟨w18.heap.size, 0, none⟩ = some (.int .i64 2) := by rw [blk_cell hb]; rfl
  have c1 : wq.cell? ⟨w18.heap.size, 1, none⟩ = some (.slice nA 3 nc) := by rw [blk_cell hb]; rfl
  have c2 : wq.cell? ⟨w18.heap.size, 2, none⟩ = some (.slice sA 0 sc) := by rw [blk_cell hb]; rfl
  have c3 : wq.cell? ⟨w18.heap.size, 3, none⟩ = some (.slice lA 0 lc) := by rw [blk_cell hb]; rfl
  clear hb
  clear hl
  go_simp
  exact ⟨gb_refl _ none, nA, nc, sA, sc, lA, lc, rfl, hv⟩
 refine wpFacts_stepG (RowF w24.heap.size 3 #[.int .i64 2, .int .i64 1, .int .i64 2] 2) 30 true 86 rfl (by rw [HO.out]; rfl) (by rw [HS.out]; decide) (fun _ _ h => h) (RowF.up _ _ _ _) ?_ ?_
 ·intro a wq hw hl
  clear hl
  go_simp
  exact RowF.new _ _ (Nat.le_trans HGW.out.size hw.size)
 refine wpFacts_stepG (ValF (Vl.mk (2) [2, 1, 2] [] [])) 30 true 86 rfl (by rw [HO.out]; rfl) (by rw [HS.out]; decide) (fun _ _ h => h) (ValF.up _) ?_ ?_
 ·intro a wq hw hl
  have h88 : (RowF w24.heap.size 3 #[.int .i64 2, .int .i64 1, .int .i64 2] 2) (a.tmps[88]?.getD undef) wq := hl 88 (by first | (simp [Op.operands]; done) | simp [Op.operands, Call.operands]) (by rw [HS.out]; decide)
  obtain ⟨rb, e88, hrb, _⟩ := h88
  clear hl
  go_simp
  refine ⟨gb_refl _ none, (ints7_any [2, 1, 2] wq (some ⟨rb, 0, none⟩) 3 (by decide) (rd_blk hrb rfl)).mono fun _ _ h => ?_⟩
  obtain ⟨x9, h1, h2, h3⟩ := ValF.of_new h
  exact ⟨x9, h1, h2, h3⟩
 refine wpFacts_stepG (fun vq _ => vq = .bool true) 30 true 86 rfl (by rw [HO.out]; rfl) (by rw [HS.out]; decide) (fun _ _ h => h) (Lit.up _) ?_ ?_
 ·intro a wq hw hl
  have h87 : (ValF (Vl.mk (2) [2, 1, 2] [] [])) (a.tmps[87]?.getD undef) wq := hl 87 (by first | (simp [Op.operands]; done) | simp [Op.operands, Call.operands]) (by rw [HS.out]; decide)
  obtain ⟨nA, nc, sA, sc, lA, lc, e87, hv⟩ := h87
  have h89 : (ValF (Vl.mk (2) [2, 1, 2] [] [])) (a.tmps[89]?.getD undef) wq := hl 89 (by first | (simp [Op.operands]; done) | simp [Op.operands, Call.operands]) (by rw [HS.out]; decide)
  obtain ⟨mA, mc, tA, tc, kA, kc, e89, hv2⟩ := h89
  clear hl
  go_simp
  exact gUpon_lit ((rMatch_any (Vl.mk (2) [2, 1, 2] [] []) (Vl.mk (2) [2, 1, 2] [] []) wq wq.heap.size nA nc sA sc lA lc mA mc tA tc kA kc (by decide) (by decide) (Nat.le_refl _) hv hv2).mono fun _ _ h => ⟨h.1.trans (by rw [show Vl.same (Vl.mk (2) [2, 1, 2] [] []) (Vl.mk (2) [2, 1, 2] [] []) = true by decide]), h.2⟩)
 refine wpFacts_lit (.bool true) rfl ?_ ?_
 ·intro a wq hw hl
  have e86 : a.tmps[86]?.getD undef = .bool true := hl 86 (by first | (simp [Op.operands]; done) | simp [Op.operands, Call.operands]) (by rw [HS.out]; decide)
  have e90 : a.tmps[90]?.getD undef = .bool true := hl 90 (by first | (simp [Op.operands]; done) | simp [Op.operands, Call.operands]) (by rw [HS.out]; decide)
  clear hl
  go_simp
 refine wpFacts_lit (.bool true) rfl ?_ ?_
 ·intro a wq hw hl
  have e91 : a.tmps[91]?.getD undef = .bool true := hl 91 (by first | (simp [Op.operands]; done) | simp [Op.operands, Call.operands]) (by rw [HS.out]; decide)
  clear hl
  go_simp
 refine wpFacts_litG (.int .i64 0) 36 true 92 rfl (by rw [HO.out]; rfl) (by rw [HS.out]; decide) (fun _ _ h => h) ?_ ?_
 ·intro a wq hw hl
  have e10 : a.tmps[10]?.getD undef = .int .i64 0 := (hl 10 (by first | (simp [Op.operands]; done) | simp [Op.operands, Call.operands]) (by rw [HS.out]; decide)).trans A10.out
  clear hl
  go_simp
 refine wpFacts_stepG (fun vq _ => vq = .int .i64 0) 36 true 92 rfl (by rw [HO.out]; rfl) (by rw [HS.out]; decide) (fun _ _ h => h) (Lit.up _) ?_ ?_
 ·intro a wq hw hl
  have e93 : a.tmps[93]?.getD undef = .int .i64 0 := hl 93 (by first | (simp [Op.operands]; done) | simp [Op.operands, Call.operands]) (by rw [HS.out]; decide)
  clear hl
  go_simp
  exact gUpon_same (num7_any _ _)
 refine wpFacts_litG (.bool true) 36 true 92 rfl (by rw [HO.out]; rfl) (by rw [HS.out]; decide) (fun _ _ h => h) ?_ ?_
 ·intro a wq hw hl
  have e94 : a.tmps[94]?.getD undef = .int .i64 0 := hl 94 (by first | (simp [Op.operands]; done) | simp [Op.operands, Call.operands]) (by rw [HS.out]; decide)
  clear hl
  go_simp
 refine wpFacts_lit (.bool true) rfl ?_ ?_
 ·intro a wq hw hl
  have e92 : a.tmps[92]?.getD undef = .bool true := hl 92 (by first | (simp [Op.operands]; done) | simp [Op.operands, Call.operands]) (by rw [HS.out]; decide)
  have e95 : a.tmps[95]?.getD undef = .bool true := hl 95 (by first | (simp [Op.operands]; done) | simp [Op.operands, Call.operands]) (by rw [HS.out]; decide)
  clear hl
  go_simp
 refine wpFacts_lit (.bool true) rfl ?_ ?_
 ·intro a wq hw hl
  have e96 : a.tmps[96]?.getD undef = .bool true := hl 96 (by first | (simp [Op.operands]; done) | simp [Op.operands, Call.operands]) (by rw [HS.out]; decide)
  clear hl
  go_simp
 refine wpFacts_stepG (ValF (Vl.mk (2) [1, 2, 3] [] [])) 41 true 97 rfl (by rw [HO.out]; rfl) (by rw [HS.out]; decide) (fun _ _ h => h) (ValF.up _) ?_ ?_
 ·intro a wq hw hl
  have e11 : a.tmps[11]?.getD undef = .pointer (some ⟨w23.heap.size, 0, none⟩) := (hl 11 (by first | (simp [Op.operands]; done) | simp [Op.operands, Call.operands]) (by rw [HS.out]; decide)).trans A11.out
  obtain ⟨nA, nc, sA, sc, lA, lc, hb, hv⟩ := HBD.out.gb (gb_trans HGW.out hw (.inl rfl))
  have c0 : wq.cell? ⟨w23.heap.size, 0, none⟩ = some (.int .i64 2) := by rw [blk_cell hb]; rfl
  have c1 : wq.cell? ⟨w23.heap.size, 1, none⟩ = some (.slice nA 3 nc) := by rw [blk_cell hb]; rfl
  have c2 : wq.cell? ⟨w23.heap.size, 2, none⟩ = some (.slice sA 0 sc) := by rw [blk_cell hb]; rfl
  have c3 : wq.cell? ⟨w23.heap.size, 3, none⟩ = some (.slice lA 0 lc) := by rw [blk_cell hb]; rfl
  clear hb
  clear hl
  go_simp
  exact ⟨gb_refl _ none, nA, nc, sA, sc, lA, lc, rfl, hv⟩
 refine wpFacts_stepG (RowF w24.heap.size 3 #[.int .i64 1, .int .i64 2, .int .i64 3] 2) 41 true 97 rfl (by rw [HO.out]; rfl) (by rw [HS.out]; decide) (fun _ _ h => h) (RowF.up _ _ _ _) ?_ ?_
 ·intro a wq hw hl
  clear hl
  go_simp
  exact RowF.new _ _ (Nat.le_trans HGW.out.size hw.size)
 refine wpFacts_stepG (ValF (Vl.mk (2) [1, 2, 3] [] [])) 41 true 97 rfl (by rw [HO.out]; rfl) (by rw [HS.out]; decide) (fun _ _ h => h) (ValF.up _) ?_ ?_
 ·intro a wq hw hl
  have h99 : (RowF w24.heap.size 3 #[.int .i64 1, .int .i64 2, .int .i64 3] 2) (a.tmps[99]?.getD undef) wq := hl 99 (by first | (simp [Op.operands]; done) | simp [Op.operands, Call.operands]) (by rw [HS.out]; decide)
  obtain ⟨rb, e99, hrb, _⟩ := h99
  clear hl
  go_simp
  refine ⟨gb_refl _ none, (ints7_any [1, 2, 3] wq (some ⟨rb, 0, none⟩) 3 (by decide) (rd_blk hrb rfl)).mono fun _ _ h => ?_⟩
  obtain ⟨x9, h1, h2, h3⟩ := ValF.of_new h
  exact ⟨x9, h1, h2, h3⟩
 refine wpFacts_stepG (fun vq _ => vq = .bool true) 41 true 97 rfl (by rw [HO.out]; rfl) (by rw [HS.out]; decide) (fun _ _ h => h) (Lit.up _) ?_ ?_
 ·intro a wq hw hl
  have h98 : (ValF (Vl.mk (2) [1, 2, 3] [] [])) (a.tmps[98]?.getD undef) wq := hl 98 (by first | (simp [Op.operands]; done) | simp [Op.operands, Call.operands]) (by rw [HS.out]; decide)
  obtain ⟨nA, nc, sA, sc, lA, lc, e98, hv⟩ := h98
  have h100 : (ValF (Vl.mk (2) [1, 2, 3] [] [])) (a.tmps[100]?.getD undef) wq := hl 100 (by first | (simp [Op.operands]; done) | simp [Op.operands, Call.operands]) (by rw [HS.out]; decide)
  obtain ⟨mA, mc, tA, tc, kA, kc, e100, hv2⟩ := h100
  clear hl
  go_simp
  exact gUpon_lit ((rMatch_any (Vl.mk (2) [1, 2, 3] [] []) (Vl.mk (2) [1, 2, 3] [] []) wq wq.heap.size nA nc sA sc lA lc mA mc tA tc kA kc (by decide) (by decide) (Nat.le_refl _) hv hv2).mono fun _ _ h => ⟨h.1.trans (by rw [show Vl.same (Vl.mk (2) [1, 2, 3] [] []) (Vl.mk (2) [1, 2, 3] [] []) = true by decide]), h.2⟩)
 refine wpFacts_lit (.bool true) rfl ?_ ?_
 ·intro a wq hw hl
  have e97 : a.tmps[97]?.getD undef = .bool true := hl 97 (by first | (simp [Op.operands]; done) | simp [Op.operands, Call.operands]) (by rw [HS.out]; decide)
  have e101 : a.tmps[101]?.getD undef = .bool true := hl 101 (by first | (simp [Op.operands]; done) | simp [Op.operands, Call.operands]) (by rw [HS.out]; decide)
  clear hl
  go_simp
 refine wpFacts_lit (.bool true) rfl ?_ ?_
 ·intro a wq hw hl
  have e102 : a.tmps[102]?.getD undef = .bool true := hl 102 (by first | (simp [Op.operands]; done) | simp [Op.operands, Call.operands]) (by rw [HS.out]; decide)
  clear hl
  go_simp
 refine wpFacts_litG (.int .i64 0) 47 true 103 rfl (by rw [HO.out]; rfl) (by rw [HS.out]; decide) (fun _ _ h => h) ?_ ?_
 ·intro a wq hw hl
  have e12 : a.tmps[12]?.getD undef = .int .i64 0 := (hl 12 (by first | (simp [Op.operands]; done) | simp [Op.operands, Call.operands]) (by rw [HS.out]; decide)).trans A12.out
  clear hl
  go_simp
 refine wpFacts_stepG (fun vq _ => vq = .int .i64 0) 47 true 103 rfl (by rw [HO.out]; rfl) (by rw [HS.out]; decide) (fun _ _ h => h) (Lit.up _) ?_ ?_
 ·intro a wq hw hl
  have e104 : a.tmps[104]?.getD undef = .int .i64 0 := hl 104 (by first | (simp [Op.operands]; done) | simp [Op.operands, Call.operands]) (by rw [HS.out]; decide)
  clear hl
  go_simp
  exact gUpon_same (num7_any _ _)
 refine wpFacts_litG (.bool true) 47 true 103 rfl (by rw [HO.out]; rfl) (by rw [HS.out]; decide) (fun _ _ h => h) ?_ ?_
 ·intro a wq hw hl
  have e105 : a.tmps[105]?.getD undef = .int .i64 0 := hl 105 (by first | (simp [Op.operands]; done) | simp [Op.operands, Call.operands]) (by rw [HS.out]; decide)
  clear hl
  go_simp
 refine wpFacts_lit (.bool true) rfl ?_ ?_
 ·intro a wq hw hl
  have e103 : a.tmps[103]?.getD undef = .bool true := hl 103 (by first | (simp [Op.operands]; done) | simp [Op.operands, Call.operands]) (by rw [HS.out]; decide)
  have e106 : a.tmps[106]?.getD undef = .bool true := hl 106 (by first | (simp [Op.operands]; done) | simp [Op.operands, Call.operands]) (by rw [HS.out]; decide)
  clear hl
  go_simp
 refine HL.out _ (fun a' wz hc => ?_)
 have e107 : a'.eval (.tmp 107) = .bool true := hc.fact 107 (by rw [HS.out]; decide)
 have hgwz := gb_trans HGW.out hc.grown (.inl rfl)
 have hfr := hc.frame [56, 57, 58, 59, 60, 61, 62, 63, 64, 65, 66, 67, 68, 69, 70, 71, 72, 73, 74, 75, 76, 77, 78, 79, 80, 81, 82, 83, 84, 85, 86, 87, 88, 89, 90, 91, 92, 93, 94, 95, 96, 97, 98, 99, 100, 101, 102, 103, 104, 105, 106, 107, 0] (by rw [HO.out]; kernel_rfl)
 rw [hfr]
 clear hfr hc
 rw [HA.out]
 clear HA HO HL HW HS HGW A1 A3 A9 A11 A2 A4 A6 A8 A10 A12
 clear A O W L
 simp only [List.drop_succ_cons, List.drop_zero, List.foldl_cons, List.foldl_nil, Act.put, List.setIfInBounds_toArray, List.set_cons_succ, List.set_cons_zero]
 rw [e107]
 generalize a'.eval (.tmp 56) = x56
 generalize a'.eval (.tmp 57) = x57
 generalize a'.eval (.tmp 58) = x58
 generalize a'.eval (.tmp 59) = x59
 generalize a'.eval (.tmp 60) = x60
 generalize a'.eval (.tmp 61) = x61
 generalize a'.eval (.tmp 62) = x62
 generalize a'.eval (.tmp 63) = x63
 generalize a'.eval (.tmp 64) = x64
 generalize a'.eval (.tmp 65) = x65
 generalize a'.eval (.tmp 66) = x66
 generalize a'.eval (.tmp 67) = x67
 generalize a'.eval (.tmp 68) = x68
 generalize a'.eval (.tmp 69) = x69
 generalize a'.eval (.tmp 70) = x70
 generalize a'.eval (.tmp 71) = x71
 generalize a'.eval (.tmp 72) = x72
 generalize a'.eval (.tmp 73) = x73
 generalize a'.eval (.tmp 74) = x74
 generalize a'.eval (.tmp 75) = x75
 generalize a'.eval (.tmp 76) = x76
 generalize a'.eval (.tmp 77) = x77
 generalize a'.eval (.tmp 78) = x78
 generalize a'.eval (.tmp 79) = x79
 generalize a'.eval (.tmp 80) = x80
 generalize a'.eval (.tmp 81) = x81
 generalize a'.eval (.tmp 82) = x82
 generalize a'.eval (.tmp 83) = x83
 generalize a'.eval (.tmp 84) = x84
 generalize a'.eval (.tmp 85) = x85
 generalize a'.eval (.tmp 86) = x86
 generalize a'.eval (.tmp 87) = x87
 generalize a'.eval (.tmp 88) = x88
 generalize a'.eval (.tmp 89) = x89
 generalize a'.eval (.tmp 90) = x90
 generalize a'.eval (.tmp 91) = x91
 generalize a'.eval (.tmp 92) = x92
 generalize a'.eval (.tmp 93) = x93
 generalize a'.eval (.tmp 94) = x94
 generalize a'.eval (.tmp 95) = x95
 generalize a'.eval (.tmp 96) = x96
 generalize a'.eval (.tmp 97) = x97
 generalize a'.eval (.tmp 98) = x98
 generalize a'.eval (.tmp 99) = x99
 generalize a'.eval (.tmp 100) = x100
 generalize a'.eval (.tmp 101) = x101
 generalize a'.eval (.tmp 102) = x102
 generalize a'.eval (.tmp 103) = x103
 generalize a'.eval (.tmp 104) = x104
 generalize a'.eval (.tmp 105) = x105
 generalize a'.eval (.tmp 106) = x106
 generalize a'.eval (.tmp 0) = x0
 clear e107
 clear a'
 have HGZ := hide (gb_trans HG0.out hgwz (.inl rfl))
 clear hgwz
 go_wp2_with fail
 exact bodyPost_ret (v := .bool true) (by simp [results, Tryz.results5, go_sem]) rfl ⟨rfl, HGZ.out⟩
end Go.Proofs.YtbmgodmfpoappaaGreat
namespace Go.Proofs.YtbmgodmfpoappaaGreat
open Go.RowKit
attribute [local go_sem ↓] Go.wp_at_zero Go.wp_at_succ
end Go.Proofs.YtbmgodmfpoappaaGreat
