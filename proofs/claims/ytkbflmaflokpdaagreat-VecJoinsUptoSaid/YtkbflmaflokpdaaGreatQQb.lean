/-
  vec.Join of any values.
-/
import Derived.Test.YtkbflmaflokpdaaGreatQJt

namespace Go.Proofs.YtkbflmaflokpdaaGreat
open Go.RowKit
attribute [local go_sem ↓] Go.wp_at_zero Go.wp_at_succ

theorem widV_tot (v : Vl) : widV v ≤ v.tot := by
  unfold widV
  split
  · exact Vl.count_le v.depth v (Nat.le_refl _)
  · have := Vl.tot_def v; omega
theorem widS_tots (l : List Vl) : widS l ≤ Vl.tots l := by
  induction l with
  | nil => exact Nat.zero_le _
  | cons a r ih =>
    have h1 := widV_tot a
    unfold widS at ih ⊢
    simp only [List.map_cons, List.foldr_cons, Vl.tots]
    omega
set_option maxHeartbeats 8000000 in
set_option maxRecDepth 100000 in
theorem join_many (l : List Vl) (w : World) (B : Nat) (A : Option Addr) (c : Nat) (hw : 65536 < widS l) (ht : Vl.tots l ≤ 1200000000) (hB : B ≤ w.heap.size) (h : RdV w B A l) :
    Calls Tryz.prog 19 #[.slice A l.length c] w (ErrV 6 w) := by
  have l1 : l.length ≤ 1200000000 := Nat.le_trans (Vl.length_le_tots l) ht
  obtain ⟨wa, hwa⟩ : ∃ wa, wa = w.alloc (.cells #[.int .i64 0, .slice none 0 0, .slice none 0 0, .slice none 0 0] 26) := ⟨_, rfl⟩
  have hb : wa.heap[w.heap.size]? = some (.cells #[.int .i64 0, .slice none 0 0, .slice none 0 0, .slice none 0 0] 26 (0, 0)) := by rw [hwa]; exact heap_alloc_new w _
  have hg : w.grownBy wa none := by rw [hwa]; exact gb_alloc (gb_refl w none) _
  have HB := hide hb
  have HG := hide hg
  have HWE := hide hwa
  have HSZ := hide (show wa.heap.size = w.heap.size + 1 by rw [hwa]; simp)
  have HBB := hide hB
  have HT := hide ht
  have H := hide h
  have HL := hide l1
  have HWS := hide (Nat.le_trans (widS_tots l) ht)
  have h13 : decide ((65536 : Int) < (widS l : Int)) = true := decide_eq_true (by omega)
  clear hb hg hwa hB ht h l1 hw
  go_enter Tryz.func19, Tryz.ntmps19
  go_wp2_with fail
  rw [← HWE.out]
  go_loopw [4, 13] (fun u i wr => ∃ j : Nat, i = .int .i64 (j : Int) ∧ u = .int .i64 (widS (l.take j) : Nat) ∧ j ≤ l.length ∧ wa.grownBy wr none) (fun _ i _ => l.length - (intOf i).toNat)
  case atStart => exact ⟨0, rfl, rfl, Nat.zero_le _, gb_refl wa none⟩
  case round =>
    obtain ⟨j, rfl, rfl, hj, hgr⟩ := hrel
    by_cases hlt : j < l.length
    · have hlt1 : (j : Int) < (l.length : Int) := by omega
      obtain ⟨q, p, xA, xc, yA, yc, zA, zc, hA, hqB, hc4, hvb⟩ := H.out.at_ hlt
      subst hA
      have hgw : w.grownBy wr none := gb_trans HG.out hgr (.inl rfl)
      obtain ⟨f0, f1, f2, f3⟩ := hc4.gb hgw
      have hvr := hvb.gb hgw HBB.out
      have hW := widS_take l j hlt
      have hle := widS_le l (j + 1)
      have h6 : IntKind.i64.wrap ((j : Int) + 1) = ((j + 1 : Nat) : Int) := by rw [IntKind.wrap_i64]; have := HL.out; omega
      have h7 : IntKind.i64.wrap ((widS (l.take j) : Int) + (widV l[j] : Int)) = (widS (l.take (j + 1)) : Int) := by rw [IntKind.wrap_i64, hW]; have := HWS.out; omega
      have HWD := hide (fun w2 (hg : wr.grownBy w2 none) => width_any l[j] w2 B xA xc yA yc zA zc (Nat.le_trans (Vl.tot_mem (List.getElem_mem hlt)) HT.out) (by have := HBB.out; have := hgw.size; have := hg.size; omega) (hvr.gb hg (by have := HBB.out; have := hgw.size; omega)))
      have HGR := hide hgr
      have HLT := hide hlt
      have C4n := hide (C4.box wr (.int .i64 l[j].t) (.slice xA l[j].n.length xc) (.slice yA l[j].s.length yc) (.slice zA l[j].l.length zc) 26)
      clear hc4 hvb hgw hvr hW hle hgr hj
      generalize widS (l.take j) = s0 at *
      obtain ⟨s1, hs1⟩ : ∃ s1, s1 = widS (l.take (j + 1)) := ⟨_, rfl⟩
      rw [← hs1] at h7
      have HS1 := hide hs1
      clear hs1
      generalize widV l[j] = s2 at *
      go_wp2_with (go_at_call 40; refine (HWD.out _ (gb_alloc (gb_refl wr none) _)).mono ?_; rintro e w1 ⟨rfl, hg1⟩; have HG1 := hide (gb_trans (gb_alloc (gb_refl wr none) _) hg1 (.inl rfl)); clear hg1)
      go_roundw
      case rel => exact ⟨j + 1, by go_num, by rw [← HS1.out], by have := HLT.out; omega, gb_trans HGR.out HG1.out (.inl rfl)⟩
      case measure => have := HLT.out; simp [intOf]; omega
    · have hlt1 : ¬ (j : Int) < (l.length : Int) := by omega
      obtain rfl : j = l.length := by omega
      rw [List.take_length]
      have HGR := hide hgr
      have HG2 := hide (gb_trans HG.out hgr (.inl rfl))
      clear hgr hlt hj
      have hr2 := blk_keep HB.out HGR.out (by simp)
      have HR2 := hide hr2
      have z0 := blk_frozen hr2 0
      have z1 := blk_frozen hr2 1
      have z2 := blk_frozen hr2 2
      have z3 := blk_frozen hr2 3
      have y0 : wr.cell? ⟨w.heap.size, 0, none⟩ = some (.int .i64 0) := (by { rw [blk_cell hr2]; rfl })
      have y1 : wr.cell? ⟨w.heap.size, 1, none⟩ = some (.slice none 0 0) := (by { rw [blk_cell hr2]; rfl })
      have y2 : wr.cell? ⟨w.heap.size, 2, none⟩ = some (.slice none 0 0) := (by { rw [blk_cell hr2]; rfl })
      have y3 : wr.cell? ⟨w.heap.size, 3, none⟩ = some (.slice none 0 0) := (by { rw [blk_cell hr2]; rfl })
      clear hr2
      go_wp2_with fail
      obtain ⟨m0, m1, m2, m3⟩ := C4.put HR2.out (.int .i64 0) (.slice none 0 0) (.slice none 0 0) (.slice none 0 0)
      simp only [put4, Nat.zero_add] at m0 m1 m2 m3
      refine bodyPost_ret (v := .tuple #[.agg #[.int .i64 0, .slice none 0 0, .slice none 0 0, .slice none 0 0], .int .i64 6]) (by simp [results, Tryz.results19, go_sem, m0, m1, m2, m3]) rfl ⟨rfl, ?_⟩
      exact put4_to HG2.out (Nat.le_refl _)
set_option maxHeartbeats 8000000 in
set_option maxRecDepth 100000 in
theorem join_nil (l : List Vl) (w : World) (B : Nat) (A : Option Addr) (c : Nat) (hnil : l.any vNl = true) (hw : widS l ≤ 65536) (ht : Vl.tots l ≤ 1200000000) (hB : B ≤ w.heap.size) (h : RdV w B A l) :
    Calls Tryz.prog 19 #[.slice A l.length c] w (ErrV 31 w) := by
  have l1 : l.length ≤ 1200000000 := Nat.le_trans (Vl.length_le_tots l) ht
  obtain ⟨wa, hwa⟩ : ∃ wa, wa = w.alloc (.cells #[.int .i64 0, .slice none 0 0, .slice none 0 0, .slice none 0 0] 26) := ⟨_, rfl⟩
  have hb : wa.heap[w.heap.size]? = some (.cells #[.int .i64 0, .slice none 0 0, .slice none 0 0, .slice none 0 0] 26 (0, 0)) := by rw [hwa]; exact heap_alloc_new w _
  have hg : w.grownBy wa none := by rw [hwa]; exact gb_alloc (gb_refl w none) _
  have HB := hide hb
  have HG := hide hg
  have HWE := hide hwa
  have HSZ := hide (show wa.heap.size = w.heap.size + 1 by rw [hwa]; simp)
  have HBB := hide hB
  have HT := hide ht
  have H := hide h
  have HL := hide l1
  have HWS := hide hw
  have HNL := hide (fun w2 (hg : w.grownBy w2 none) => (vNil_has l w2 B A c l1 (Nat.le_trans hB hg.size) (h.gb hg hB)).mono (fun e w' h => (⟨h.1.trans (by rw [hnil]), h.2⟩ : e = .returned (.bool true) ∧ w2.grownBy w' none)))
  have h13 : decide ((65536 : Int) < (widS l : Int)) = false := decide_eq_false (by omega)
  clear hb hg hwa hB ht h l1 hw hnil
  go_enter Tryz.func19, Tryz.ntmps19
  go_wp2_with fail
  rw [← HWE.out]
  go_loopw [4, 13] (fun u i wr => ∃ j : Nat, i = .int .i64 (j : Int) ∧ u = .int .i64 (widS (l.take j) : Nat) ∧ j ≤ l.length ∧ wa.grownBy wr none) (fun _ i _ => l.length - (intOf i).toNat)
  case atStart => exact ⟨0, rfl, rfl, Nat.zero_le _, gb_refl wa none⟩
  case round =>
    obtain ⟨j, rfl, rfl, hj, hgr⟩ := hrel
    by_cases hlt : j < l.length
    · have hlt1 : (j : Int) < (l.length : Int) := by omega
      obtain ⟨q, p, xA, xc, yA, yc, zA, zc, hA, hqB, hc4, hvb⟩ := H.out.at_ hlt
      subst hA
      have hgw : w.grownBy wr none := gb_trans HG.out hgr (.inl rfl)
      obtain ⟨f0, f1, f2, f3⟩ := hc4.gb hgw
      have hvr := hvb.gb hgw HBB.out
      have hW := widS_take l j hlt
      have hle := widS_le l (j + 1)
      have h6 : IntKind.i64.wrap ((j : Int) + 1) = ((j + 1 : Nat) : Int) := by rw [IntKind.wrap_i64]; have := HL.out; omega
      have h7 : IntKind.i64.wrap ((widS (l.take j) : Int) + (widV l[j] : Int)) = (widS (l.take (j + 1)) : Int) := by rw [IntKind.wrap_i64, hW]; have := HWS.out; omega
      have HWD := hide (fun w2 (hg : wr.grownBy w2 none) => width_any l[j] w2 B xA xc yA yc zA zc (Nat.le_trans (Vl.tot_mem (List.getElem_mem hlt)) HT.out) (by have := HBB.out; have := hgw.size; have := hg.size; omega) (hvr.gb hg (by have := HBB.out; have := hgw.size; omega)))
      have HGR := hide hgr
      have HLT := hide hlt
      have C4n := hide (C4.box wr (.int .i64 l[j].t) (.slice xA l[j].n.length xc) (.slice yA l[j].s.length yc) (.slice zA l[j].l.length zc) 26)
      clear hc4 hvb hgw hvr hW hle hgr hj
      generalize widS (l.take j) = s0 at *
      obtain ⟨s1, hs1⟩ : ∃ s1, s1 = widS (l.take (j + 1)) := ⟨_, rfl⟩
      rw [← hs1] at h7
      have HS1 := hide hs1
      clear hs1
      generalize widV l[j] = s2 at *
      go_wp2_with (go_at_call 40; refine (HWD.out _ (gb_alloc (gb_refl wr none) _)).mono ?_; rintro e w1 ⟨rfl, hg1⟩; have HG1 := hide (gb_trans (gb_alloc (gb_refl wr none) _) hg1 (.inl rfl)); clear hg1)
      go_roundw
      case rel => exact ⟨j + 1, by go_num, by rw [← HS1.out], by have := HLT.out; omega, gb_trans HGR.out HG1.out (.inl rfl)⟩
      case measure => have := HLT.out; simp [intOf]; omega
    · have hlt1 : ¬ (j : Int) < (l.length : Int) := by omega
      obtain rfl : j = l.length := by omega
      rw [List.take_length]
      have HGR := hide hgr
      have HG2 := hide (gb_trans HG.out hgr (.inl rfl))
      clear hgr hlt hj
      go_wp2_with (go_at_call 41; refine (HNL.out _ HG2.out).mono ?_; rintro e w1 ⟨rfl, hg1⟩; have HG3 := hide (gb_trans HG2.out hg1 (.inl rfl)); have HGS := hide (gb_trans HGR.out hg1 (.inl rfl)); clear hg1; have hr2 := blk_keep HB.out HGS.out (by simp); have HR2 := hide hr2; have z0 := blk_frozen hr2 0; have z1 := blk_frozen hr2 1; have z2 := blk_frozen hr2 2; have z3 := blk_frozen hr2 3; have y0 : w1.cell? ⟨w.heap.size, 0, none⟩ = some (.int .i64 0) := (by { rw [blk_cell hr2]; rfl }); have y1 : w1.cell? ⟨w.heap.size, 1, none⟩ = some (.slice none 0 0) := (by { rw [blk_cell hr2]; rfl }); have y2 : w1.cell? ⟨w.heap.size, 2, none⟩ = some (.slice none 0 0) := (by { rw [blk_cell hr2]; rfl }); have y3 : w1.cell? ⟨w.heap.size, 3, none⟩ = some (.slice none 0 0) := (by { rw [blk_cell hr2]; rfl }); clear hr2)
      obtain ⟨m0, m1, m2, m3⟩ := C4.put HR2.out (.int .i64 0) (.slice none 0 0) (.slice none 0 0) (.slice none 0 0)
      simp only [put4, Nat.zero_add] at m0 m1 m2 m3
      refine bodyPost_ret (v := .tuple #[.agg #[.int .i64 0, .slice none 0 0, .slice none 0 0, .slice none 0 0], .int .i64 31]) (by simp [results, Tryz.results19, go_sem, m0, m1, m2, m3]) rfl ⟨rfl, ?_⟩
      exact put4_to HG3.out (Nat.le_refl _)
set_option maxHeartbeats 8000000 in
set_option maxRecDepth 100000 in
theorem join_list2 (l : List Vl) (w : World) (B : Nat) (A : Option Addr) (c : Nat) (hone : oneK l = false) (hnil : l.any vNl = false) (hw : widS l ≤ 65536) (ht : Vl.tots l ≤ 1200000000)
    (hft : Vl.tots (flX l) ≤ 1200000000) (hvt : (ofV (flX l)).tot ≤ 1200000000) (hdp : (ofV (flX l)).depth ≤ 32) (hB : B ≤ w.heap.size) (h : RdV w B A l) :
    Calls Tryz.prog 19 #[.slice A l.length c] w (TupV (ofV (flX l)) w) := by
  have l1 : l.length ≤ 1200000000 := Nat.le_trans (Vl.length_le_tots l) ht
  have hfl : (flX l).length ≤ 1200000000 := Nat.le_trans (Vl.length_le_tots _) hft
  obtain ⟨wa, hwa⟩ : ∃ wa, wa = w.alloc (.cells #[.int .i64 0, .slice none 0 0, .slice none 0 0, .slice none 0 0] 26) := ⟨_, rfl⟩
  have hb : wa.heap[w.heap.size]? = some (.cells #[.int .i64 0, .slice none 0 0, .slice none 0 0, .slice none 0 0] 26 (0, 0)) := by rw [hwa]; exact heap_alloc_new w _
  have hg : w.grownBy wa none := by rw [hwa]; exact gb_alloc (gb_refl w none) _
  have HB := hide hb
  have HG := hide hg
  have HWE := hide hwa
  have HSZ := hide (show wa.heap.size = w.heap.size + 1 by rw [hwa]; simp)
  have HBB := hide hB
  have HT := hide ht
  have H := hide h
  have HL := hide l1
  have HWS := hide hw
  have HFL := hide hfl
  have HNL := hide (fun w2 (hg : w.grownBy w2 none) => (vNil_has l w2 B A c l1 (Nat.le_trans hB hg.size) (h.gb hg hB)).mono (fun e w' h => (⟨h.1.trans (by rw [hnil]), h.2⟩ : e = .returned (.bool false) ∧ w2.grownBy w' none)))
  have HOK := hide (fun w2 (hg : w.grownBy w2 none) => (ofOneKind_any l w2 B A c l1 (Nat.le_trans hB hg.size) (h.gb hg hB)).mono (fun e w' h => (⟨h.1.trans (by rw [hone]), h.2⟩ : e = .returned (.bool false) ∧ w2.grownBy w' none)))
  obtain ⟨ov, hov⟩ : ∃ ov, ov = ofV (flX l) := ⟨_, rfl⟩
  have hof := fun w2 A2 c2 (hr : RdV w2 w2.heap.size A2 (flX l)) => of_any (flX l) w2 w2.heap.size A2 c2 hft (Nat.le_refl _) hr
  rw [← hov] at hvt hdp hof ⊢
  have HOF := hide hof
  have HDP := hide (fun w2 iA ic jA jc kA kc (hv : VB w2 w2.heap.size ov iA ic jA jc kA kc) => depth_any ov w2 w2.heap.size iA ic jA jc kA kc hvt (Nat.le_refl _) hv)
  have h32 : decide ((32 : Int) < (ov.depth : Int)) = false := decide_eq_false (by omega)
  obtain ⟨i1, hi1, hiz, his, hib⟩ := info_parts Tryz.infoV
  have HI1 := hide hi1
  have HIZ := hide hiz
  have HIS := hide his
  have HIB := hide hib
  have h13 : decide ((65536 : Int) < (widS l : Int)) = false := decide_eq_false (by omega)
  clear hb hg hwa hB ht h l1 hw hone hnil hft hfl hvt hdp hof hov hi1 hiz his hib
  generalize ov.depth = od at *
  go_enter Tryz.func19, Tryz.ntmps19
  go_wp2_with fail
  rw [← HWE.out]
  go_loopw [4, 13] (fun u i wr => ∃ j : Nat, i = .int .i64 (j : Int) ∧ u = .int .i64 (widS (l.take j) : Nat) ∧ j ≤ l.length ∧ wa.grownBy wr none) (fun _ i _ => l.length - (intOf i).toNat)
  case atStart => exact ⟨0, rfl, rfl, Nat.zero_le _, gb_refl wa none⟩
  case round =>
    obtain ⟨j, rfl, rfl, hj, hgr⟩ := hrel
    by_cases hlt : j < l.length
    · have hlt1 : (j : Int) < (l.length : Int) := by omega
      obtain ⟨q, p, xA, xc, yA, yc, zA, zc, hA, hqB, hc4, hvb⟩ := H.out.at_ hlt
      subst hA
      have hgw : w.grownBy wr none := gb_trans HG.out hgr (.inl rfl)
      obtain ⟨f0, f1, f2, f3⟩ := hc4.gb hgw
      have hvr := hvb.gb hgw HBB.out
      have hW := widS_take l j hlt
      have hle := widS_le l (j + 1)
      have h6 : IntKind.i64.wrap ((j : Int) + 1) = ((j + 1 : Nat) : Int) := by rw [IntKind.wrap_i64]; have := HL.out; omega
      have h7 : IntKind.i64.wrap ((widS (l.take j) : Int) + (widV l[j] : Int)) = (widS (l.take (j + 1)) : Int) := by rw [IntKind.wrap_i64, hW]; have := HWS.out; omega
      have HWD := hide (fun w2 (hg : wr.grownBy w2 none) => width_any l[j] w2 B xA xc yA yc zA zc (Nat.le_trans (Vl.tot_mem (List.getElem_mem hlt)) HT.out) (by have := HBB.out; have := hgw.size; have := hg.size; omega) (hvr.gb hg (by have := HBB.out; have := hgw.size; omega)))
      have HGR := hide hgr
      have HLT := hide hlt
      have C4n := hide (C4.box wr (.int .i64 l[j].t) (.slice xA l[j].n.length xc) (.slice yA l[j].s.length yc) (.slice zA l[j].l.length zc) 26)
      clear hc4 hvb hgw hvr hW hle hgr hj
      generalize widS (l.take j) = s0 at *
      obtain ⟨s1, hs1⟩ : ∃ s1, s1 = widS (l.take (j + 1)) := ⟨_, rfl⟩
      rw [← hs1] at h7
      have HS1 := hide hs1
      clear hs1
      generalize widV l[j] = s2 at *
      go_wp2_with (go_at_call 40; refine (HWD.out _ (gb_alloc (gb_refl wr none) _)).mono ?_; rintro e w1 ⟨rfl, hg1⟩; have HG1 := hide (gb_trans (gb_alloc (gb_refl wr none) _) hg1 (.inl rfl)); clear hg1)
      go_roundw
      case rel => exact ⟨j + 1, by go_num, by rw [← HS1.out], by have := HLT.out; omega, gb_trans HGR.out HG1.out (.inl rfl)⟩
      case measure => have := HLT.out; simp [intOf]; omega
    · have hlt1 : ¬ (j : Int) < (l.length : Int) := by omega
      obtain rfl : j = l.length := by omega
      rw [List.take_length]
      have HGR := hide hgr
      have HG2 := hide (gb_trans HG.out hgr (.inl rfl))
      clear hgr hlt hj
      go_wp2_with (first
        | (go_at_call 41; refine (HNL.out _ HG2.out).mono ?_; rintro e w1 ⟨rfl, hg1⟩; have HG3 := hide (gb_trans HG2.out hg1 (.inl rfl)); have HGS := hide (gb_trans HGR.out hg1 (.inl rfl)); clear hg1)
        | (go_at_call 43; refine (HOK.out _ HG3.out).mono ?_; rintro e w2 ⟨rfl, hg2⟩; have HG4 := hide (gb_trans HG3.out hg2 (.inl rfl)); have HGT := hide (gb_trans HGS.out hg2 (.inl rfl)); clear hg2))
      clear HNL HOK HGR HG2 HG3 HGS h13 HWS
      go_loopw [7, 37] (fun u i wr => ∃ j : Nat, i = .int .i64 (j : Int) ∧ j ≤ l.length ∧ RowM wa.heap.size B (flX (l.take j)) wr u ∧ wa.grownBy wr none) (fun _ i _ => l.length - (intOf i).toNat)
      case atStart => exact ⟨0, rfl, Nat.zero_le _, RowM.none_ ⟨by have := HBB.out; have := HG.out.size; omega, HGT.out.size⟩, HGT.out⟩
      case round =>
        obtain ⟨j, rfl, hj, hall, hgr⟩ := hrel
        by_cases hlt : j < l.length
        · have hlt1 : (j : Int) < (l.length : Int) := by omega
          obtain ⟨q, p, xA, xc, yA, yc, zA, zc, hA, hqB, hc4, hvb⟩ := H.out.at_ hlt
          subst hA
          have hgw : w.grownBy wr none := gb_trans HG.out hgr (.inl rfl)
          obtain ⟨f0, f1, f2, f3⟩ := hc4.gb hgw
          have hvr := hvb.gb hgw HBB.out
          have hle := flX_le l (j + 1)
          have h6 : IntKind.i64.wrap ((j : Int) + 1) = ((j + 1 : Nat) : Int) := by rw [IntKind.wrap_i64]; have := HL.out; omega
          obtain ⟨wq, hwq⟩ : ∃ wq, wq = wr.alloc (.cells #[.int .i64 l[j].t, .slice xA l[j].n.length xc, .slice yA l[j].s.length yc, .slice zA l[j].l.length zc] 26) := ⟨_, rfl⟩
          have hgq : wr.grownBy wq none := by rw [hwq]; exact gb_alloc (gb_refl wr none) _
          obtain ⟨es, m, hem, hft, hcall⟩ : ∃ (es : List Vl) (m : Nat), es.length = m ∧ flX (l.take (j + 1)) = flX (l.take j) ++ es ∧ Calls Tryz.prog 45 #[.agg #[.int .i64 l[j].t, .slice xA l[j].n.length xc, .slice yA l[j].s.length yc, .slice zA l[j].l.length zc]] wq (MixR B es wq) := ⟨_, _, rfl, flX_take l j hlt, elem_any l[j] wq B xA xc yA yc zA zc (Nat.le_trans (Vl.tot_mem (List.getElem_mem hlt)) HT.out) (by have := HBB.out; have := hgw.size; have := hgq.size; omega) (hvr.gb hgq (by have := HBB.out; have := hgw.size; omega))⟩
          have HEL := hide hcall
          have HAL := hide (hall.gb hgq)
          have HGR := hide (gb_trans hgr hgq (.inl rfl))
          have HWQ := hide hwq
          have HLT := hide hlt
          have HLN := hide hem
          have HLE := hide (show (flX (l.take j)).length + m ≤ 1200000000 by have := HFL.out; rw [hft, List.length_append, hem] at hle; omega)
          have HFT := hide hft
          clear hc4 hvb hgw hvr hle hft hgr hj hall hgq hwq hcall hem
          generalize hvs : flX (l.take j) = vs at *
          clear hvs
          go_wp2_with (first
            | (go_at_call 45; rw [← HWQ.out]; refine HEL.out.mono ?_; rintro e w3 ⟨hg3, A2, c2, ys, g2, hc2, rfl, hr2, ho2, hl2, hf2⟩; rw [HLN.out] at hc2 hl2 ⊢; have HG3 := hide hg3; have HAL3 := hide (HAL.out.gb hg3); have HR2 := hide hr2; have HO2 := hide ho2; have HL2 := hide hl2; have HF2 := hide hf2; clear hg3 hc2 hr2 ho2 hl2 hf2)
            | (at_builtin
               obtain ⟨xs, f, how, hva, hsep⟩ := HAL3.out.p
               refine wpList_append_rd _ rfl (.tmp 41) (.tmp 43) 24 rfl wa.heap.size 26 i1 (.agg #[.int .i64 0, .slice none 0 0, .slice none 0 0, .slice none 0 0]) 4 80 Tryz.underlying24 HI1.out HIZ.out HIS.out HIB.out rfl (Nat.succ_pos 3) u7 vs.length (List.flatten xs) rfl how w3.heap.size A2 m c2 (List.flatten ys) rfl HL2.out HR2.out (Mix.one _ _ _ HO2.out) (by have := HLE.out; unfold maxLen; omega) (by have := HLE.out; omega) (Nat.le_trans HGR.out.size HG3.out.size) ?_
               intro v8 w8 ho8 hg8 hl8
               have HFIN := hide (show RowM wa.heap.size B (vs ++ es) w8 v8 ∧ wa.grownBy w8 none from
                 ⟨RowM.app HAL3.out.hb how hva hsep HO2.out (fun b hb e => by have h2 := HF2.out b hb; obtain ⟨_, _, h4, _⟩ := HAL.out.p; have h5 := (h4.lt b e).2; omega) (by rw [HLN.out]; exact ho8) hg8 hl8,
                  HAL3.out.grown (Nat.le_refl _) (gb_trans HGR.out HG3.out (.inl rfl)) hg8⟩)
               clear ho8 hg8 hl8 how hva hsep))
          go_roundw
          case rel => exact ⟨j + 1, by go_num, by have := HLT.out; omega, by rw [HFT.out]; exact HFIN.out.1, HFIN.out.2⟩
          case measure => have := HLT.out; simp [intOf]; omega
        · have hlt1 : ¬ (j : Int) < (l.length : Int) := by omega
          obtain rfl : j = l.length := by omega
          rw [List.take_length] at hall
          obtain ⟨uA, uc, rfl, hrd⟩ := hall.rd
          have HOC := hide (HOF.out wr uA uc hrd)
          have HBZ := hide (blk_keep HB.out hgr (by simp))
          have HGW := hide (gb_trans HG.out hgr (.inl rfl))
          have hszw := hgr.size
          have HSW := hide (show w.heap.size < wr.heap.size by have := HSZ.out; omega)
          clear hrd hall hgr hlt hj HOF hszw
          generalize flX l = fs at *
          generalize fs.length = fn at *
          go_wp2_with (first
            | (go_at_call 34; refine HOC.out.mono ?_; rintro e w5 ⟨iA, ic, jA, jc, kA, kc, f5, rfl, ho5, hn5, hg5⟩; have hga := gb_alloc (gb_refl w5 none) (.cells #[.int .i64 ov.t, .slice iA ov.n.length ic, .slice jA ov.s.length jc, .slice kA ov.l.length kc] 26); have HO5 := hide ho5; have HN5 := hide hn5; have HG5 := hide hg5; have HGA := hide hga; have HDC := hide (HDP.out (w5.alloc (.cells #[.int .i64 ov.t, .slice iA ov.n.length ic, .slice jA ov.s.length jc, .slice kA ov.l.length kc] 26)) iA ic jA jc kA kc ((ho5.vb.gb hga (Nat.le_refl _)).up hga.size)); obtain ⟨u0, u1, u2, u3⟩ := C4.box w5 (.int .i64 ov.t) (.slice iA ov.n.length ic) (.slice jA ov.s.length jc) (.slice kA ov.l.length kc) 26; clear ho5 hn5 hg5 hga)
            | (go_at_call 46; refine HDC.out.mono ?_; rintro e w9 ⟨rfl, hg9⟩; have HG9 := hide (gb_trans HGA.out hg9 (.inl rfl)); have v0 := cell_gb u0 hg9; have v1 := cell_gb u1 hg9; have v2 := cell_gb u2 hg9; have v3 := cell_gb u3 hg9; have hr2 := blk_keep HBZ.out (gb_trans HG5.out HG9.out (.inl rfl)) (by simp); have HR2 := hide hr2; have z0 := blk_frozen hr2 0; have z1 := blk_frozen hr2 1; have z2 := blk_frozen hr2 2; have z3 := blk_frozen hr2 3; have y0 : w9.cell? ⟨w.heap.size, 0, none⟩ = some (.int .i64 0) := (by { rw [blk_cell hr2]; rfl }); have y1 : w9.cell? ⟨w.heap.size, 1, none⟩ = some (.slice none 0 0) := (by { rw [blk_cell hr2]; rfl }); have y2 : w9.cell? ⟨w.heap.size, 2, none⟩ = some (.slice none 0 0) := (by { rw [blk_cell hr2]; rfl }); have y3 : w9.cell? ⟨w.heap.size, 3, none⟩ = some (.slice none 0 0) := (by { rw [blk_cell hr2]; rfl }); clear hr2 hg9 u0 u1 u2 u3))
          have hb := put_four HR2.out (.int .i64 ov.t) (.slice iA ov.n.length ic) (.slice jA ov.s.length jc) (.slice kA ov.l.length kc)
          have m0 : ((((w9.setCell ⟨w.heap.size, 0, none⟩ (.int .i64 ov.t)).setCell ⟨w.heap.size, 1, none⟩ (.slice iA ov.n.length ic)).setCell ⟨w.heap.size, 2, none⟩ (.slice jA ov.s.length jc)).setCell ⟨w.heap.size, 3, none⟩ (.slice kA ov.l.length kc)).cell? ⟨w.heap.size, 0, none⟩ = some (.int .i64 ov.t) := (blk_cell hb 0).trans rfl
          have m1 : ((((w9.setCell ⟨w.heap.size, 0, none⟩ (.int .i64 ov.t)).setCell ⟨w.heap.size, 1, none⟩ (.slice iA ov.n.length ic)).setCell ⟨w.heap.size, 2, none⟩ (.slice jA ov.s.length jc)).setCell ⟨w.heap.size, 3, none⟩ (.slice kA ov.l.length kc)).cell? ⟨w.heap.size, 1, none⟩ = some (.slice iA ov.n.length ic) := (blk_cell hb 1).trans rfl
          have m2 : ((((w9.setCell ⟨w.heap.size, 0, none⟩ (.int .i64 ov.t)).setCell ⟨w.heap.size, 1, none⟩ (.slice iA ov.n.length ic)).setCell ⟨w.heap.size, 2, none⟩ (.slice jA ov.s.length jc)).setCell ⟨w.heap.size, 3, none⟩ (.slice kA ov.l.length kc)).cell? ⟨w.heap.size, 2, none⟩ = some (.slice jA ov.s.length jc) := (blk_cell hb 2).trans rfl
          have m3 : ((((w9.setCell ⟨w.heap.size, 0, none⟩ (.int .i64 ov.t)).setCell ⟨w.heap.size, 1, none⟩ (.slice iA ov.n.length ic)).setCell ⟨w.heap.size, 2, none⟩ (.slice jA ov.s.length jc)).setCell ⟨w.heap.size, 3, none⟩ (.slice kA ov.l.length kc)).cell? ⟨w.heap.size, 3, none⟩ = some (.slice kA ov.l.length kc) := (blk_cell hb 3).trans rfl
          refine bodyPost_ret (v := .tuple #[.agg #[.int .i64 ov.t, .slice iA ov.n.length ic, .slice jA ov.s.length jc, .slice kA ov.l.length kc], .int .i64 0]) (by simp [results, Tryz.results19, go_sem, m0, m1, m2, m3]) rfl ?_
          have hsw := HSW.out
          refine ⟨iA, ic, jA, jc, kA, kc, f5, rfl, VOw.keep _ _ _ (HO5.out.grow HG9.out) fun b hm => put_four_other (by have := (HN5.out.2 b hm).1; omega) _ _ _ _, ⟨HN5.out.1, fun b hb => ?_⟩, put_four_gb (gb_trans HGW.out (gb_trans HG5.out HG9.out (.inl rfl)) (.inl rfl)) (Nat.le_refl _) _ _ _ _⟩
          have h2 := HN5.out.2 b hb
          have h3 := HG9.out.size
          refine ⟨by omega, ?_⟩
          simp [World.setCell]
          omega
set_option maxHeartbeats 8000000 in
set_option maxRecDepth 100000 in
theorem join_deep (l : List Vl) (w : World) (B : Nat) (A : Option Addr) (c : Nat) (hone : oneK l = false) (hnil : l.any vNl = false) (hw : widS l ≤ 65536) (ht : Vl.tots l ≤ 1200000000)
    (hft : Vl.tots (flX l) ≤ 1200000000) (hvt : (ofV (flX l)).tot ≤ 1200000000) (hdp : 32 < (ofV (flX l)).depth) (hB : B ≤ w.heap.size) (h : RdV w B A l) :
    Calls Tryz.prog 19 #[.slice A l.length c] w (ErrV 6 w) := by
  have l1 : l.length ≤ 1200000000 := Nat.le_trans (Vl.length_le_tots l) ht
  have hfl : (flX l).length ≤ 1200000000 := Nat.le_trans (Vl.length_le_tots _) hft
  obtain ⟨wa, hwa⟩ : ∃ wa, wa = w.alloc (.cells #[.int .i64 0, .slice none 0 0, .slice none 0 0, .slice none 0 0] 26) := ⟨_, rfl⟩
  have hb : wa.heap[w.heap.size]? = some (.cells #[.int .i64 0, .slice none 0 0, .slice none 0 0, .slice none 0 0] 26 (0, 0)) := by rw [hwa]; exact heap_alloc_new w _
  have hg : w.grownBy wa none := by rw [hwa]; exact gb_alloc (gb_refl w none) _
  have HB := hide hb
  have HG := hide hg
  have HWE := hide hwa
  have HSZ := hide (show wa.heap.size = w.heap.size + 1 by rw [hwa]; simp)
  have HBB := hide hB
  have HT := hide ht
  have H := hide h
  have HL := hide l1
  have HWS := hide hw
  have HFL := hide hfl
  have HNL := hide (fun w2 (hg : w.grownBy w2 none) => (vNil_has l w2 B A c l1 (Nat.le_trans hB hg.size) (h.gb hg hB)).mono (fun e w' h => (⟨h.1.trans (by rw [hnil]), h.2⟩ : e = .returned (.bool false) ∧ w2.grownBy w' none)))
  have HOK := hide (fun w2 (hg : w.grownBy w2 none) => (ofOneKind_any l w2 B A c l1 (Nat.le_trans hB hg.size) (h.gb hg hB)).mono (fun e w' h => (⟨h.1.trans (by rw [hone]), h.2⟩ : e = .returned (.bool false) ∧ w2.grownBy w' none)))
  obtain ⟨ov, hov⟩ : ∃ ov, ov = ofV (flX l) := ⟨_, rfl⟩
  have hof := fun w2 A2 c2 (hr : RdV w2 w2.heap.size A2 (flX l)) => of_any (flX l) w2 w2.heap.size A2 c2 hft (Nat.le_refl _) hr
  rw [← hov] at hvt hdp hof
  have HOF := hide hof
  have HDP := hide (fun w2 iA ic jA jc kA kc (hv : VB w2 w2.heap.size ov iA ic jA jc kA kc) => depth_any ov w2 w2.heap.size iA ic jA jc kA kc hvt (Nat.le_refl _) hv)
  have h32 : decide ((32 : Int) < (ov.depth : Int)) = true := decide_eq_true (by omega)
  obtain ⟨i1, hi1, hiz, his, hib⟩ := info_parts Tryz.infoV
  have HI1 := hide hi1
  have HIZ := hide hiz
  have HIS := hide his
  have HIB := hide hib
  have h13 : decide ((65536 : Int) < (widS l : Int)) = false := decide_eq_false (by omega)
  clear hb hg hwa hB ht h l1 hw hone hnil hft hfl hvt hdp hof hov hi1 hiz his hib
  generalize ov.depth = od at *
  go_enter Tryz.func19, Tryz.ntmps19
  go_wp2_with fail
  rw [← HWE.out]
  go_loopw [4, 13] (fun u i wr => ∃ j : Nat, i = .int .i64 (j : Int) ∧ u = .int .i64 (widS (l.take j) : Nat) ∧ j ≤ l.length ∧ wa.grownBy wr none) (fun _ i _ => l.length - (intOf i).toNat)
  case atStart => exact ⟨0, rfl, rfl, Nat.zero_le _, gb_refl wa none⟩
  case round =>
    obtain ⟨j, rfl, rfl, hj, hgr⟩ := hrel
    by_cases hlt : j < l.length
    · have hlt1 : (j : Int) < (l.length : Int) := by omega
      obtain ⟨q, p, xA, xc, yA, yc, zA, zc, hA, hqB, hc4, hvb⟩ := H.out.at_ hlt
      subst hA
      have hgw : w.grownBy wr none := gb_trans HG.out hgr (.inl rfl)
      obtain ⟨f0, f1, f2, f3⟩ := hc4.gb hgw
      have hvr := hvb.gb hgw HBB.out
      have hW := widS_take l j hlt
      have hle := widS_le l (j + 1)
      have h6 : IntKind.i64.wrap ((j : Int) + 1) = ((j + 1 : Nat) : Int) := by rw [IntKind.wrap_i64]; have := HL.out; omega
      have h7 : IntKind.i64.wrap ((widS (l.take j) : Int) + (widV l[j] : Int)) = (widS (l.take (j + 1)) : Int) := by rw [IntKind.wrap_i64, hW]; have := HWS.out; omega
      have HWD := hide (fun w2 (hg : wr.grownBy w2 none) => width_any l[j] w2 B xA xc yA yc zA zc (Nat.le_trans (Vl.tot_mem (List.getElem_mem hlt)) HT.out) (by have := HBB.out; have := hgw.size; have := hg.size; omega) (hvr.gb hg (by have := HBB.out; have := hgw.size; omega)))
      have HGR := hide hgr
      have HLT := hide hlt
      have C4n := hide (C4.box wr (.int .i64 l[j].t) (.slice xA l[j].n.length xc) (.slice yA l[j].s.length yc) (.slice zA l[j].l.length zc) 26)
      clear hc4 hvb hgw hvr hW hle hgr hj
      generalize widS (l.take j) = s0 at *
      obtain ⟨s1, hs1⟩ : ∃ s1, s1 = widS (l.take (j + 1)) := ⟨_, rfl⟩
      rw [← hs1] at h7
      have HS1 := hide hs1
      clear hs1
      generalize widV l[j] = s2 at *
      go_wp2_with (go_at_call 40; refine (HWD.out _ (gb_alloc (gb_refl wr none) _)).mono ?_; rintro e w1 ⟨rfl, hg1⟩; have HG1 := hide (gb_trans (gb_alloc (gb_refl wr none) _) hg1 (.inl rfl)); clear hg1)
      go_roundw
      case rel => exact ⟨j + 1, by go_num, by rw [← HS1.out], by have := HLT.out; omega, gb_trans HGR.out HG1.out (.inl rfl)⟩
      case measure => have := HLT.out; simp [intOf]; omega
    · have hlt1 : ¬ (j : Int) < (l.length : Int) := by omega
      obtain rfl : j = l.length := by omega
      rw [List.take_length]
      have HGR := hide hgr
      have HG2 := hide (gb_trans HG.out hgr (.inl rfl))
      clear hgr hlt hj
      go_wp2_with (first
        | (go_at_call 41; refine (HNL.out _ HG2.out).mono ?_; rintro e w1 ⟨rfl, hg1⟩; have HG3 := hide (gb_trans HG2.out hg1 (.inl rfl)); have HGS := hide (gb_trans HGR.out hg1 (.inl rfl)); clear hg1)
        | (go_at_call 43; refine (HOK.out _ HG3.out).mono ?_; rintro e w2 ⟨rfl, hg2⟩; have HG4 := hide (gb_trans HG3.out hg2 (.inl rfl)); have HGT := hide (gb_trans HGS.out hg2 (.inl rfl)); clear hg2))
      clear HNL HOK HGR HG2 HG3 HGS h13 HWS
      go_loopw [7, 37] (fun u i wr => ∃ j : Nat, i = .int .i64 (j : Int) ∧ j ≤ l.length ∧ RowM wa.heap.size B (flX (l.take j)) wr u ∧ wa.grownBy wr none) (fun _ i _ => l.length - (intOf i).toNat)
      case atStart => exact ⟨0, rfl, Nat.zero_le _, RowM.none_ ⟨by have := HBB.out; have := HG.out.size; omega, HGT.out.size⟩, HGT.out⟩
      case round =>
        obtain ⟨j, rfl, hj, hall, hgr⟩ := hrel
        by_cases hlt : j < l.length
        · have hlt1 : (j : Int) < (l.length : Int) := by omega
          obtain ⟨q, p, xA, xc, yA, yc, zA, zc, hA, hqB, hc4, hvb⟩ := H.out.at_ hlt
          subst hA
          have hgw : w.grownBy wr none := gb_trans HG.out hgr (.inl rfl)
          obtain ⟨f0, f1, f2, f3⟩ := hc4.gb hgw
          have hvr := hvb.gb hgw HBB.out
          have hle := flX_le l (j + 1)
          have h6 : IntKind.i64.wrap ((j : Int) + 1) = ((j + 1 : Nat) : Int) := by rw [IntKind.wrap_i64]; have := HL.out; omega
          obtain ⟨wq, hwq⟩ : ∃ wq, wq = wr.alloc (.cells #[.int .i64 l[j].t, .slice xA l[j].n.length xc, .slice yA l[j].s.length yc, .slice zA l[j].l.length zc] 26) := ⟨_, rfl⟩
          have hgq : wr.grownBy wq none := by rw [hwq]; exact gb_alloc (gb_refl wr none) _
          obtain ⟨es, m, hem, hft, hcall⟩ : ∃ (es : List Vl) (m : Nat), es.length = m ∧ flX (l.take (j + 1)) = flX (l.take j) ++ es ∧ Calls Tryz.prog 45 #[.agg #[.int .i64 l[j].t, .slice xA l[j].n.length xc, .slice yA l[j].s.length yc, .slice zA l[j].l.length zc]] wq (MixR B es wq) := ⟨_, _, rfl, flX_take l j hlt, elem_any l[j] wq B xA xc yA yc zA zc (Nat.le_trans (Vl.tot_mem (List.getElem_mem hlt)) HT.out) (by have := HBB.out; have := hgw.size; have := hgq.size; omega) (hvr.gb hgq (by have := HBB.out; have := hgw.size; omega))⟩
          have HEL := hide hcall
          have HAL := hide (hall.gb hgq)
          have HGR := hide (gb_trans hgr hgq (.inl rfl))
          have HWQ := hide hwq
          have HLT := hide hlt
          have HLN := hide hem
          have HLE := hide (show (flX (l.take j)).length + m ≤ 1200000000 by have := HFL.out; rw [hft, List.length_append, hem] at hle; omega)
          have HFT := hide hft
          clear hc4 hvb hgw hvr hle hft hgr hj hall hgq hwq hcall hem
          generalize hvs : flX (l.take j) = vs at *
          clear hvs
          go_wp2_with (first
            | (go_at_call 45; rw [← HWQ.out]; refine HEL.out.mono ?_; rintro e w3 ⟨hg3, A2, c2, ys, g2, hc2, rfl, hr2, ho2, hl2, hf2⟩; rw [HLN.out] at hc2 hl2 ⊢; have HG3 := hide hg3; have HAL3 := hide (HAL.out.gb hg3); have HR2 := hide hr2; have HO2 := hide ho2; have HL2 := hide hl2; have HF2 := hide hf2; clear hg3 hc2 hr2 ho2 hl2 hf2)
            | (at_builtin
               obtain ⟨xs, f, how, hva, hsep⟩ := HAL3.out.p
               refine wpList_append_rd _ rfl (.tmp 41) (.tmp 43) 24 rfl wa.heap.size 26 i1 (.agg #[.int .i64 0, .slice none 0 0, .slice none 0 0, .slice none 0 0]) 4 80 Tryz.underlying24 HI1.out HIZ.out HIS.out HIB.out rfl (Nat.succ_pos 3) u7 vs.length (List.flatten xs) rfl how w3.heap.size A2 m c2 (List.flatten ys) rfl HL2.out HR2.out (Mix.one _ _ _ HO2.out) (by have := HLE.out; unfold maxLen; omega) (by have := HLE.out; omega) (Nat.le_trans HGR.out.size HG3.out.size) ?_
               intro v8 w8 ho8 hg8 hl8
               have HFIN := hide (show RowM wa.heap.size B (vs ++ es) w8 v8 ∧ wa.grownBy w8 none from
                 ⟨RowM.app HAL3.out.hb how hva hsep HO2.out (fun b hb e => by have h2 := HF2.out b hb; obtain ⟨_, _, h4, _⟩ := HAL.out.p; have h5 := (h4.lt b e).2; omega) (by rw [HLN.out]; exact ho8) hg8 hl8,
                  HAL3.out.grown (Nat.le_refl _) (gb_trans HGR.out HG3.out (.inl rfl)) hg8⟩)
               clear ho8 hg8 hl8 how hva hsep))
          go_roundw
          case rel => exact ⟨j + 1, by go_num, by have := HLT.out; omega, by rw [HFT.out]; exact HFIN.out.1, HFIN.out.2⟩
          case measure => have := HLT.out; simp [intOf]; omega
        · have hlt1 : ¬ (j : Int) < (l.length : Int) := by omega
          obtain rfl : j = l.length := by omega
          rw [List.take_length] at hall
          obtain ⟨uA, uc, rfl, hrd⟩ := hall.rd
          have HOC := hide (HOF.out wr uA uc hrd)
          have HBZ := hide (blk_keep HB.out hgr (by simp))
          have HGW := hide (gb_trans HG.out hgr (.inl rfl))
          have hszw := hgr.size
          have HSW := hide (show w.heap.size < wr.heap.size by have := HSZ.out; omega)
          clear hrd hall hgr hlt hj HOF hszw
          generalize flX l = fs at *
          generalize fs.length = fn at *
          go_wp2_with (first
            | (go_at_call 34; refine HOC.out.mono ?_; rintro e w5 ⟨iA, ic, jA, jc, kA, kc, f5, rfl, ho5, hn5, hg5⟩; have hga := gb_alloc (gb_refl w5 none) (.cells #[.int .i64 ov.t, .slice iA ov.n.length ic, .slice jA ov.s.length jc, .slice kA ov.l.length kc] 26); have HO5 := hide ho5; have HN5 := hide hn5; have HG5 := hide hg5; have HGA := hide hga; have HDC := hide (HDP.out (w5.alloc (.cells #[.int .i64 ov.t, .slice iA ov.n.length ic, .slice jA ov.s.length jc, .slice kA ov.l.length kc] 26)) iA ic jA jc kA kc ((ho5.vb.gb hga (Nat.le_refl _)).up hga.size)); obtain ⟨u0, u1, u2, u3⟩ := C4.box w5 (.int .i64 ov.t) (.slice iA ov.n.length ic) (.slice jA ov.s.length jc) (.slice kA ov.l.length kc) 26; clear ho5 hn5 hg5 hga)
            | (go_at_call 46; refine HDC.out.mono ?_; rintro e w9 ⟨rfl, hg9⟩; have HG9 := hide (gb_trans HGA.out hg9 (.inl rfl)); have v0 := cell_gb u0 hg9; have v1 := cell_gb u1 hg9; have v2 := cell_gb u2 hg9; have v3 := cell_gb u3 hg9; have hr2 := blk_keep HBZ.out (gb_trans HG5.out HG9.out (.inl rfl)) (by simp); have HR2 := hide hr2; have z0 := blk_frozen hr2 0; have z1 := blk_frozen hr2 1; have z2 := blk_frozen hr2 2; have z3 := blk_frozen hr2 3; have y0 : w9.cell? ⟨w.heap.size, 0, none⟩ = some (.int .i64 0) := (by { rw [blk_cell hr2]; rfl }); have y1 : w9.cell? ⟨w.heap.size, 1, none⟩ = some (.slice none 0 0) := (by { rw [blk_cell hr2]; rfl }); have y2 : w9.cell? ⟨w.heap.size, 2, none⟩ = some (.slice none 0 0) := (by { rw [blk_cell hr2]; rfl }); have y3 : w9.cell? ⟨w.heap.size, 3, none⟩ = some (.slice none 0 0) := (by { rw [blk_cell hr2]; rfl }); clear hr2 hg9 u0 u1 u2 u3))
          obtain ⟨m0, m1, m2, m3⟩ := C4.put HR2.out (.int .i64 0) (.slice none 0 0) (.slice none 0 0) (.slice none 0 0)
          simp only [put4, Nat.zero_add] at m0 m1 m2 m3
          refine bodyPost_ret (v := .tuple #[.agg #[.int .i64 0, .slice none 0 0, .slice none 0 0, .slice none 0 0], .int .i64 6]) (by simp [results, Tryz.results19, go_sem, m0, m1, m2, m3]) rfl ⟨rfl, ?_⟩
          exact put4_to (gb_trans HGW.out (gb_trans HG5.out HG9.out (.inl rfl)) (.inl rfl)) (Nat.le_refl _)
end Go.Proofs.YtkbflmaflokpdaaGreat
