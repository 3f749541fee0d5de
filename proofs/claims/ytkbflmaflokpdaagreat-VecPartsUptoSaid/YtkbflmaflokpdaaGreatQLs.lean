/-
  The document's Drop; what they answer of what is no vector or list.
-/
import Derived.Test.YtkbflmaflokpdaaGreatQLr
import Derived.Deep.QuietTactic
import Derived.BigQuiet
import Derived.Deep.RegionLaw
import Derived.Deep.CutBlock
import Derived.Deep.DeepCutAuto

namespace Go.Proofs.YtkbflmaflokpdaaGreat
open Go.RowKit
attribute [local go_sem ↓] Go.wp_at_zero Go.wp_at_succ

theorem Tryz.infoInt : (Tryz.prog.info? 3).map (fun i => (i.zero, i.size, i.bytes)) = some (some (.int .i64 0), 1, 8) := by kernel_rfl
theorem rVec_seq {t : Int} (h : seqT t) (h0 : t ≠ 0) : rVec t = true := by
  unfold rVec
  rw [Bool.and_eq_true, decide_eq_true_eq, decide_eq_true_eq]
  rcases h with (h | h | h | h) | h | h <;> omega
theorem rVec_not {t : Int} (h : ¬ seqT t) : rVec t = false ∧ t ≠ 0 := by
  have h1 : ¬ (1 ≤ t ∧ t ≤ 5) := fun h1 => h (by unfold seqT numT; omega)
  refine ⟨?_, fun e => h (.inr (.inr e))⟩
  unfold rVec
  by_cases h2 : 1 ≤ t
  · rw [decide_eq_true h2, decide_eq_false (by omega)]; rfl
  · rw [decide_eq_false h2]; rfl
set_option maxHeartbeats 4000000 in
set_option maxRecDepth 100000 in
theorem part_vec (t : Int) (hs : seqT t ∧ t ≠ 0) (c1 c2 c3 : Value) (w : World) : Calls Tryz.prog 29 #[.agg #[.int .i64 t, c1, c2, c3]] w fun e w' => e = .returned (.bool true) ∧ w.grownBy w' none := by
  obtain ⟨wa, hwa⟩ : ∃ wa, wa = w.alloc (.cells #[.int .i64 t, c1, c2, c3] 26) := ⟨_, rfl⟩
  have hg : w.grownBy wa none := by rw [hwa]; exact gb_alloc (gb_refl w none) _
  have hb : wa.heap[w.heap.size]? = some (.cells #[.int .i64 t, c1, c2, c3] 26 (0, 0)) := by rw [hwa]; exact heap_alloc_new w _
  obtain ⟨b0, b1, b2, b3⟩ : C4 wa w.heap.size 0 (.int .i64 t) c1 c2 c3 := ⟨by rw [blk_cell hb]; rfl, by rw [blk_cell hb]; rfl, by rw [blk_cell hb]; rfl, by rw [blk_cell hb]; rfl⟩
  have HG := hide hg
  have HWE := hide hwa
  have HVE := hide (fun w2 => rVec_any t c1 c2 c3 w2)
  rw [rVec_seq hs.1 hs.2] at HVE
  clear hg hwa hb hs
  go_enter Tryz.func29, Tryz.ntmps29
  go_wp2_with fail
  rw [← HWE.out]
  go_wp2_with (go_at_call 60; refine (HVE.out _).mono ?_; rintro e w2 ⟨rfl, hg2⟩; have HG2 := hide (gb_trans HG.out hg2 (.inl rfl)); have b0 := cell_gb b0 hg2; clear hg2)
  go_ret
  exact ⟨rfl, HG2.out⟩
set_option maxHeartbeats 4000000 in
set_option maxRecDepth 100000 in
theorem part_lst (t : Int) (hs : t = 0) (c1 c2 c3 : Value) (w : World) : Calls Tryz.prog 29 #[.agg #[.int .i64 t, c1, c2, c3]] w fun e w' => e = .returned (.bool true) ∧ w.grownBy w' none := by
  obtain ⟨wa, hwa⟩ : ∃ wa, wa = w.alloc (.cells #[.int .i64 t, c1, c2, c3] 26) := ⟨_, rfl⟩
  have hg : w.grownBy wa none := by rw [hwa]; exact gb_alloc (gb_refl w none) _
  have hb : wa.heap[w.heap.size]? = some (.cells #[.int .i64 t, c1, c2, c3] 26 (0, 0)) := by rw [hwa]; exact heap_alloc_new w _
  obtain ⟨b0, b1, b2, b3⟩ : C4 wa w.heap.size 0 (.int .i64 t) c1 c2 c3 := ⟨by rw [blk_cell hb]; rfl, by rw [blk_cell hb]; rfl, by rw [blk_cell hb]; rfl, by rw [blk_cell hb]; rfl⟩
  have HG := hide hg
  have HWE := hide hwa
  have HVE := hide (fun w2 => rVec_any t c1 c2 c3 w2)
  have e0 : (t == 0) = true := int_beq_t hs
  rw [show rVec t = false by rw [hs]; rfl] at HVE
  clear hg hwa hb hs
  go_enter Tryz.func29, Tryz.ntmps29
  go_wp2_with fail
  rw [← HWE.out]
  go_wp2_with (go_at_call 60; refine (HVE.out _).mono ?_; rintro e w2 ⟨rfl, hg2⟩; have HG2 := hide (gb_trans HG.out hg2 (.inl rfl)); have b0 := cell_gb b0 hg2; clear hg2)
  go_ret
  exact ⟨rfl, HG2.out⟩
set_option maxHeartbeats 4000000 in
set_option maxRecDepth 100000 in
theorem part_no (t : Int) (hs : ¬ seqT t) (c1 c2 c3 : Value) (w : World) : Calls Tryz.prog 29 #[.agg #[.int .i64 t, c1, c2, c3]] w fun e w' => e = .returned (.bool false) ∧ w.grownBy w' none := by
  obtain ⟨wa, hwa⟩ : ∃ wa, wa = w.alloc (.cells #[.int .i64 t, c1, c2, c3] 26) := ⟨_, rfl⟩
  have hg : w.grownBy wa none := by rw [hwa]; exact gb_alloc (gb_refl w none) _
  have hb : wa.heap[w.heap.size]? = some (.cells #[.int .i64 t, c1, c2, c3] 26 (0, 0)) := by rw [hwa]; exact heap_alloc_new w _
  obtain ⟨b0, b1, b2, b3⟩ : C4 wa w.heap.size 0 (.int .i64 t) c1 c2 c3 := ⟨by rw [blk_cell hb]; rfl, by rw [blk_cell hb]; rfl, by rw [blk_cell hb]; rfl, by rw [blk_cell hb]; rfl⟩
  have HG := hide hg
  have HWE := hide hwa
  have HVE := hide (fun w2 => rVec_any t c1 c2 c3 w2)
  have e0 : (t == 0) = false := int_beq_f (rVec_not hs).2
  rw [(rVec_not hs).1] at HVE
  clear hg hwa hb hs
  go_enter Tryz.func29, Tryz.ntmps29
  go_wp2_with fail
  rw [← HWE.out]
  go_wp2_with (go_at_call 60; refine (HVE.out _).mono ?_; rintro e w2 ⟨rfl, hg2⟩; have HG2 := hide (gb_trans HG.out hg2 (.inl rfl)); have b0 := cell_gb b0 hg2; clear hg2)
  go_ret
  exact ⟨rfl, HG2.out⟩
theorem part_yes (t : Int) (hs : seqT t) (c1 c2 c3 : Value) (w : World) : Calls Tryz.prog 29 #[.agg #[.int .i64 t, c1, c2, c3]] w fun e w' => e = .returned (.bool true) ∧ w.grownBy w' none := by
  by_cases h : t = 0
  · exact part_lst t h c1 c2 c3 w
  · exact part_vec t ⟨hs, h⟩ c1 c2 c3 w

/-- Places in the making, in a row of their own. -/
structure IRow (wa wr : World) (u : Value) (l : List Int) : Prop where
  ho : wr.ownsRow wa.heap.size 3 1 u l.length (i64s l)
  hg : wa.grownBy wr none
theorem IRow.nil_ (wa wr : World) (hg : wa.grownBy wr none) : IRow wa wr (.slice none 0 0) [] := ⟨⟨rfl, .inl ⟨rfl, rfl⟩⟩, hg⟩
theorem IRow.step {wa wr w7 w8 : World} {u v8 : Value} {l : List Int} (h : IRow wa wr u l) (p : Int) (hk : wr.grownBy w7 none) (ho8 : w8.ownsRow wa.heap.size 3 1 v8 (l.length + 1) (i64s l ++ [.int .i64 p])) (hg8 : w7.grownBy w8 u.ownBlock) : IRow wa w8 v8 (l ++ [p]) := by
  refine ⟨by rw [List.length_append, i64s_app]; exact ho8, gb_trans (gb_trans h.hg hk (.inl rfl)) hg8 (match hq : u.ownBlock with | none => .inr (.inl rfl) | some g => .inr (.inr ⟨g, rfl, (h.ho.lt g hq).1⟩))⟩
theorem IRow.gb {wa wr w7 : World} {u : Value} {l : List Int} (h : IRow wa wr u l) (hk : wr.grownBy w7 none) : IRow wa w7 u l :=
  ⟨h.ho.kept hk (by cases u.ownBlock <;> simp), gb_trans h.hg hk (.inl rfl)⟩
/-- The last j of c places, from the end on. -/
def revI (c j : Nat) : List Int := (List.range j).map fun i : Nat => (c : Int) - 1 - (i : Int)
theorem revI_succ (c j : Nat) : revI c (j + 1) = revI c j ++ [(c : Int) - 1 - (j : Int)] := by
  unfold revI
  rw [List.range_succ, List.map_append]
  rfl
theorem revI_len (c j : Nat) : (revI c j).length = j := by simp [revI]
theorem revI_all (c : Nat) : revI c c = (rowI 0 c).reverse := by
  rw [rowI_eq]
  unfold revI
  apply List.ext_getElem
  · simp
  · intro i h1 h2
    have h3 : i < c := by simpa using h1
    simp only [List.getElem_map, List.getElem_range, List.getElem_reverse, List.length_map, List.length_range]
    omega
set_option maxHeartbeats 8000000 in
set_option maxRecDepth 100000 in
theorem rRev_any (v : Vl) (w : World) (B : Nat) (nA : Option Addr) (nc : Nat) (sA : Option Addr) (sc : Nat) (lA : Option Addr) (lc : Nat) (hs : seqT v.t) (ht : v.tot ≤ 500000000) (hc : v.count ≤ 65536) (hB : B ≤ w.heap.size) (h : VB w B v nA nc sA sc lA lc) (htt : v.t = 0 → Vl.tots ((rowI 0 v.count).reverse.map (pickV v.l emp)) ≤ 1200000000) :
    Calls Tryz.prog 10 #[.agg #[.int .i64 v.t, .slice nA v.n.length nc, .slice sA v.s.length sc, .slice lA v.l.length lc]] w (NewE (idxV v (rowI 0 v.count).reverse) w) := by
  obtain ⟨w1, hw1⟩ : ∃ w1, w1 = w.alloc (.cells #[.int .i64 v.t, .slice nA v.n.length nc, .slice sA v.s.length sc, .slice lA v.l.length lc] 26) := ⟨_, rfl⟩
  obtain ⟨wa, hwa⟩ : ∃ wa, wa = w1.alloc (.cells #[.int .i64 0, .slice none 0 0, .slice none 0 0, .slice none 0 0] 26) := ⟨_, rfl⟩
  have hs1 : w1.heap.size = w.heap.size + 1 := by rw [hw1]; simp
  have hg1 : w.grownBy w1 none := by rw [hw1]; exact gb_alloc (gb_refl w none) _
  have hga1 : w1.grownBy wa none := by rw [hwa]; exact gb_alloc (gb_refl w1 none) _
  have hga := gb_trans hg1 hga1 (.inl rfl)
  have hbv : wa.heap[w.heap.size]? = some (.cells #[.int .i64 v.t, .slice nA v.n.length nc, .slice sA v.s.length sc, .slice lA v.l.length lc] 26 (0, 0)) := (hga1.block _ (by omega) (by simp)).trans (by rw [hw1]; exact heap_alloc_new w _)
  have hr : wa.heap[w.heap.size + 1]? = some (.cells #[.int .i64 0, .slice none 0 0, .slice none 0 0, .slice none 0 0] 26 (0, 0)) := by rw [← hs1, hwa]; exact heap_alloc_new w1 _
  have HGA := hide hga
  have HBV := hide hbv
  have HR := hide hr
  have HWE := hide hwa
  have HW1 := hide hw1
  have HPT := hide (fun w2 => part_yes v.t hs (.slice nA v.n.length nc) (.slice sA v.s.length sc) (.slice lA v.l.length lc) w2)
  have HCN := hide (fun (w2 : World) (hg : wa.grownBy w2 none) => rCount_any v w2 B nA nc sA sc lA lc (by omega) (Nat.le_trans hB (Nat.le_trans hga.size hg.size)) (h.gb (gb_trans hga hg (.inl rfl)) hB))
  have HPK := hide (fun (l : List Int) (pA : Option Addr) (pc : Nat) (w2 : World) (hg : wa.grownBy w2 none) (hr : Rd w2 w2.heap.size pA (i64s l)) (hl : l.length ≤ 100000) (htt : v.t = 0 → Vl.tots (l.map (pickV v.l emp)) ≤ 1200000000) => pick_any v l w2 B nA nc sA sc lA lc pA pc hs ht (Nat.le_trans hB (Nat.le_trans hga.size hg.size)) (h.gb (gb_trans hga hg (.inl rfl)) hB) hr hl htt)
  have HC := hide hc
  have HTT := hide htt
  have HS1 := hide (show w.heap.size + 1 < wa.heap.size from blk_lt hr)
  obtain ⟨i1, hi1, hiz, his, hib⟩ := info_parts Tryz.infoInt
  have HI1 := hide hi1
  have HIZ := hide hiz
  have HIS := hide his
  have HIB := hide hib
  clear hs1 hg1 hga1 hga hbv hr hwa hw1 hB hs ht h hc htt hi1 hiz his hib
  generalize v.count = cn at *
  go_enter Tryz.func10, Tryz.ntmps10
  go_wp2_with fail
  rw [← HW1.out]
  rw [← HWE.out]
  obtain ⟨b0, b1, b2, b3⟩ : C4 wa w.heap.size 0 (.int .i64 v.t) (.slice nA v.n.length nc) (.slice sA v.s.length sc) (.slice lA v.l.length lc) := ⟨by rw [blk_cell HBV.out]; rfl, by rw [blk_cell HBV.out]; rfl, by rw [blk_cell HBV.out]; rfl, by rw [blk_cell HBV.out]; rfl⟩
  have h9 : IntKind.i64.wrap ((cn : Int) - 1) = (cn : Int) - 1 := by rw [IntKind.wrap_i64]; have := HC.out; omega
  go_wp2_with (first
    | (go_at_call 29; refine (HPT.out _).mono ?_; rintro e w2 ⟨rfl, hg2⟩; have HG2 := hide hg2; have b0 := cell_gb b0 hg2; have b1 := cell_gb b1 hg2; have b2 := cell_gb b2 hg2; have b3 := cell_gb b3 hg2; clear hg2)
    | (go_at_call 30; refine (HCN.out _ HG2.out).mono ?_; rintro e w3 ⟨rfl, hg3⟩; have HG3 := hide (gb_trans HG2.out hg3 (.inl rfl)); have b0 := cell_gb b0 hg3; have b1 := cell_gb b1 hg3; have b2 := cell_gb b2 hg3; have b3 := cell_gb b3 hg3; clear hg3))
  clear b0 b1 b2 b3
  clear h9
  go_loopw [4, 5] (fun u i wr => ∃ (j : Nat) (l : List Int), i = .int .i64 ((cn : Int) - 1 - (j : Int)) ∧ j ≤ cn ∧ Hid (l = revI cn j) ∧ IRow wa wr u l) (fun _ i _ => (intOf i + 1).toNat)
  case atStart => exact ⟨0, [], by simp, Nat.zero_le _, hide rfl, IRow.nil_ wa _ HG3.out⟩
  case round =>
    obtain ⟨j, l, rfl, hj, HL, hir⟩ := hrel
    have HIR := hide hir
    have HLN := hide (show l.length ≤ 65536 by rw [HL.out, revI_len]; have := HC.out; omega)
    clear hir
    by_cases hlt : j < cn
    · have hlt1 : 0 ≤ (cn : Int) - 1 - (j : Int) := by omega
      have h6 : IntKind.i64.wrap ((cn : Int) - 1 - (j : Int) - 1) = (cn : Int) - 1 - ((j + 1 : Nat) : Int) := by rw [IntKind.wrap_i64]; have := HC.out; omega
      have HJ := hide hlt
      have HNX := hide (show l ++ [(cn : Int) - 1 - (j : Int)] = revI cn (j + 1) by rw [HL.out, revI_succ])
      obtain ⟨q, hq⟩ : ∃ q, q = (cn : Int) - 1 - (j : Int) := ⟨_, rfl⟩
      rw [← hq] at hlt1 h6 HNX ⊢
      have HQ := hide hq
      clear hlt hj hq
      have HK7 := hide (gb_alloc (gb_refl wr none) (.cells #[.int .i64 q] 3))
      have HOW7 := hide (HIR.out.ho.alloc (.cells #[.int .i64 q] 3))
      have HRD7 := hide (rd_lit wr #[.int .i64 q] 3 [.int .i64 q] rfl)
      have HM7 : Hid (l.length + 1 ≤ maxLen) := hide (by unfold maxLen; have := HLN.out; omega)
      have HMB7 : Hid ((l.length + 1) * 8 ≤ 140737488355328) := hide (by have := HLN.out; omega)
      have HBS7 : Hid (wa.heap.size ≤ (wr.alloc (.cells #[.int .i64 q] 3)).heap.size) := hide (by have := HIR.out.hg.size; have := HK7.out.size; omega)
      go_wp2_with (at_builtin; refine wpList_append_rd _ rfl (.tmp 17) (.tmp 19) 52 rfl wa.heap.size 3 i1 (.int .i64 0) 1 8 Tryz.underlying52 HI1.out HIZ.out HIS.out HIB.out rfl (Nat.succ_pos 0) u4 l.length (i64s l) rfl HOW7.out (wr.alloc (.cells #[.int .i64 q] 3)).heap.size (some ⟨wr.heap.size, 0, none⟩) 1 1 [.int .i64 q] rfl rfl HRD7.out (cell1 _ _) HM7.out HMB7.out HBS7.out ?_
                   intro v8 w8 ho8 hg8 hl8
                   have HIR8 := hide (HIR.out.step q HK7.out ho8 hg8)
                   clear ho8 hg8 hl8)
      go_roundw
      case rel => exact ⟨j + 1, l ++ [q], rfl, by have := HJ.out; omega, hide HNX.out, HIR8.out⟩
      case measure => have := HJ.out; have := HQ.out; simp [intOf]; omega
    · have hlt1 : ¬ 0 ≤ (cn : Int) - 1 - (j : Int) := by omega
      obtain rfl : j = cn := by omega
      have HTL := hide (show v.t = 0 → Vl.tots (l.map (pickV v.l emp)) ≤ 1200000000 from fun e => by rw [HL.out, revI_all]; exact HTT.out e)
      have HGOAL := hide (show idxV v (rowI 0 j).reverse = idxV v l by rw [HL.out, revI_all])
      clear hlt hj
      obtain ⟨pA, pc, rfl, _⟩ := own_slice HIR.out.ho
      have HRD := hide (Rd.of_own HIR.out.ho)
      have hgr := HIR.out.hg
      have HGR := hide hgr
      obtain ⟨b0, b1, b2, b3⟩ : C4 wr w.heap.size 0 (.int .i64 v.t) (.slice nA v.n.length nc) (.slice sA v.s.length sc) (.slice lA v.l.length lc) := by have hb := blk_keep HBV.out hgr (by simp); exact ⟨by rw [blk_cell hb]; rfl, by rw [blk_cell hb]; rfl, by rw [blk_cell hb]; rfl, by rw [blk_cell hb]; rfl⟩
      clear hgr
      go_wp2_with (go_at_call 31; refine (HPK.out l pA pc _ HGR.out HRD.out (by have := HLN.out; omega) HTL.out).mono ?_; rintro e w9 ⟨xA, xc, yA, yc, zA, zc, f9, rfl, ho, hn, hg9⟩; have hrr := (hg9.block _ (by have := HGR.out.size; have := HS1.out; omega) (by simp)).trans (blk_keep HR.out HGR.out (by simp)); have HR3 := hide hrr; have z0 := blk_frozen hrr 0; have z1 := blk_frozen hrr 1; have z2 := blk_frozen hrr 2; have z3 := blk_frozen hrr 3; have p0 : w9.cell? ⟨w.heap.size + 1, 0, none⟩ = some (.int .i64 0) := (by { rw [blk_cell hrr]; rfl }); have p1 : w9.cell? ⟨w.heap.size + 1, 1, none⟩ = some (.slice none 0 0) := (by { rw [blk_cell hrr]; rfl }); have p2 : w9.cell? ⟨w.heap.size + 1, 2, none⟩ = some (.slice none 0 0) := (by { rw [blk_cell hrr]; rfl }); have p3 : w9.cell? ⟨w.heap.size + 1, 3, none⟩ = some (.slice none 0 0) := (by { rw [blk_cell hrr]; rfl }); have HF := hide (NewE.fin (x := idxV v l) ho hn (gb_trans HGA.out HGR.out (.inl rfl)) hg9 (Nat.le_succ w.heap.size) (by have := HGR.out.size; have := HS1.out; omega)); clear ho hn hg9 hrr)
      generalize idxV v l = ov at *
      obtain ⟨m0, m1, m2, m3⟩ := C4.put HR3.out (.int .i64 ov.t) (.slice xA ov.n.length xc) (.slice yA ov.s.length yc) (.slice zA ov.l.length zc)
      simp only [put4, Nat.zero_add] at m0 m1 m2 m3
      refine bodyPost_ret (v := .tuple #[.agg #[.int .i64 ov.t, .slice xA ov.n.length xc, .slice yA ov.s.length yc, .slice zA ov.l.length zc], .int .i64 0]) (by simp [results, Tryz.results10, go_sem, m0, m1, m2, m3]) rfl ?_
      rw [HGOAL.out]
      exact HF.out
set_option maxHeartbeats 8000000 in
set_option maxRecDepth 100000 in
theorem rIdx_any (v : Vl) (ps : List Int) (w : World) (B : Nat) (nA : Option Addr) (nc : Nat) (sA : Option Addr) (sc : Nat) (lA : Option Addr) (lc : Nat) (qA : Option Addr) (qc : Nat) (hs : seqT v.t) (ht : v.tot ≤ 500000000) (hc : v.count ≤ 65536) (hB : B ≤ w.heap.size) (h : VB w B v nA nc sA sc lA lc) (hp : Rd w w.heap.size qA (i64s ps)) (hpl : ps.length ≤ 1000) (htt : v.t = 0 → Vl.tots ((ps.map (nrm v.count)).map (pickV v.l emp)) ≤ 1200000000) :
    Calls Tryz.prog 18 #[.agg #[.int .i64 v.t, .slice nA v.n.length nc, .slice sA v.s.length sc, .slice lA v.l.length lc], .slice qA ps.length qc] w (NewE (idxV v (ps.map (nrm v.count))) w) := by
  have HP := hide hp
  have HPL := hide hpl
  obtain ⟨w1, hw1⟩ : ∃ w1, w1 = w.alloc (.cells #[.int .i64 v.t, .slice nA v.n.length nc, .slice sA v.s.length sc, .slice lA v.l.length lc] 26) := ⟨_, rfl⟩
  obtain ⟨wa, hwa⟩ : ∃ wa, wa = w1.alloc (.cells #[.int .i64 0, .slice none 0 0, .slice none 0 0, .slice none 0 0] 26) := ⟨_, rfl⟩
  have hs1 : w1.heap.size = w.heap.size + 1 := by rw [hw1]; simp
  have hg1 : w.grownBy w1 none := by rw [hw1]; exact gb_alloc (gb_refl w none) _
  have hga1 : w1.grownBy wa none := by rw [hwa]; exact gb_alloc (gb_refl w1 none) _
  have hga := gb_trans hg1 hga1 (.inl rfl)
  have hbv : wa.heap[w.heap.size]? = some (.cells #[.int .i64 v.t, .slice nA v.n.length nc, .slice sA v.s.length sc, .slice lA v.l.length lc] 26 (0, 0)) := (hga1.block _ (by omega) (by simp)).trans (by rw [hw1]; exact heap_alloc_new w _)
  have hr : wa.heap[w.heap.size + 1]? = some (.cells #[.int .i64 0, .slice none 0 0, .slice none 0 0, .slice none 0 0] 26 (0, 0)) := by rw [← hs1, hwa]; exact heap_alloc_new w1 _
  have HGA := hide hga
  have HBV := hide hbv
  have HR := hide hr
  have HWE := hide hwa
  have HW1 := hide hw1
  have HPT := hide (fun w2 => part_yes v.t hs (.slice nA v.n.length nc) (.slice sA v.s.length sc) (.slice lA v.l.length lc) w2)
  have HCN := hide (fun (w2 : World) (hg : wa.grownBy w2 none) => rCount_any v w2 B nA nc sA sc lA lc (by omega) (Nat.le_trans hB (Nat.le_trans hga.size hg.size)) (h.gb (gb_trans hga hg (.inl rfl)) hB))
  have HPK := hide (fun (l : List Int) (pA : Option Addr) (pc : Nat) (w2 : World) (hg : wa.grownBy w2 none) (hr : Rd w2 w2.heap.size pA (i64s l)) (hl : l.length ≤ 100000) (htt : v.t = 0 → Vl.tots (l.map (pickV v.l emp)) ≤ 1200000000) => pick_any v l w2 B nA nc sA sc lA lc pA pc hs ht (Nat.le_trans hB (Nat.le_trans hga.size hg.size)) (h.gb (gb_trans hga hg (.inl rfl)) hB) hr hl htt)
  have HC := hide hc
  have HTT := hide htt
  have HS1 := hide (show w.heap.size + 1 < wa.heap.size from blk_lt hr)
  obtain ⟨i1, hi1, hiz, his, hib⟩ := info_parts Tryz.infoInt
  have HI1 := hide hi1
  have HIZ := hide hiz
  have HIS := hide his
  have HIB := hide hib
  clear hs1 hg1 hga1 hga hbv hr hwa hw1 hB hs ht h hc htt hi1 hiz his hib hp
  generalize v.count = cn at *
  go_enter Tryz.func18, Tryz.ntmps18
  go_wp2_with fail
  rw [← HW1.out]
  rw [← HWE.out]
  obtain ⟨b0, b1, b2, b3⟩ : C4 wa w.heap.size 0 (.int .i64 v.t) (.slice nA v.n.length nc) (.slice sA v.s.length sc) (.slice lA v.l.length lc) := ⟨by rw [blk_cell HBV.out]; rfl, by rw [blk_cell HBV.out]; rfl, by rw [blk_cell HBV.out]; rfl, by rw [blk_cell HBV.out]; rfl⟩
  go_wp2_with (first
    | (go_at_call 29; refine (HPT.out _).mono ?_; rintro e w2 ⟨rfl, hg2⟩; have HG2 := hide hg2; have b0 := cell_gb b0 hg2; have b1 := cell_gb b1 hg2; have b2 := cell_gb b2 hg2; have b3 := cell_gb b3 hg2; clear hg2))
  clear b0 b1 b2 b3
  go_loopw [6, 7] (fun u i wr => ∃ (j : Nat) (l : List Int), i = .int .i64 (j : Int) ∧ j ≤ ps.length ∧ Hid (l = (ps.take j).map (nrm cn)) ∧ IRow wa wr u l) (fun _ i _ => ps.length - (intOf i).toNat)
  case atStart => exact ⟨0, [], rfl, Nat.zero_le _, hide rfl, IRow.nil_ wa _ HG2.out⟩
  case round =>
    obtain ⟨j, l, rfl, hj, HL, hir⟩ := hrel
    have HIR := hide hir
    have HLN := hide (show l.length ≤ 65536 by rw [HL.out, List.length_map, List.length_take]; have := HPL.out; omega)
    by_cases hlt : j < ps.length
    · have hlt1 : (j : Int) < (ps.length : Int) := by omega
      obtain ⟨a, ha, _, hcp0⟩ := HP.out.i64 hlt
      subst ha
      obtain ⟨p, hpe⟩ : ∃ p, p = ps[j] := ⟨_, rfl⟩
      rw [← hpe] at hcp0
      have HNX := hide (show l ++ [nrm cn p] = (ps.take (j + 1)).map (nrm cn) by rw [List.take_succ_eq_append_getElem hlt, List.map_append, ← HL.out, hpe]; rfl)
      have hcp := cell_gb hcp0 (gb_trans HGA.out hir.hg (.inl rfl))
      have hb := blk_keep HBV.out hir.hg (by simp)
      obtain ⟨b0, b1, b2, b3⟩ : C4 wr w.heap.size 0 (.int .i64 v.t) (.slice nA v.n.length nc) (.slice sA v.s.length sc) (.slice lA v.l.length lc) := ⟨by rw [blk_cell hb]; rfl, by rw [blk_cell hb]; rfl, by rw [blk_cell hb]; rfl, by rw [blk_cell hb]; rfl⟩
      have h6 : IntKind.i64.wrap ((j : Int) + 1) = ((j + 1 : Nat) : Int) := by rw [IntKind.wrap_i64]; have := HPL.out; omega
      have HJ := hide hlt
      clear hir hcp0 hb hlt hj hpe
      by_cases hneg : p < 0
      · have hd : decide (p < 0) = true := decide_eq_true hneg
        have HN := hide (show nrm cn p = -1 from nrm_out (by omega))
        have HNX := hide (show l ++ [(-1 : Int)] = (ps.take (j + 1)).map (nrm cn) by rw [← HN.out]; exact HNX.out)
        go_upto_region 7 with fail
        go_quiet (fail)
        obtain ⟨wq, hwq⟩ : ∃ wq, wq = wr.drewN nq := ⟨_, rfl⟩
        rw [← hwq]
        have HIQ := hide (HIR.out.gb (show wr.grownBy wq none by rw [hwq]; exact gb_drewN (gb_refl wr none) nq))
        have hcpq : wq.cell? (a.add j) = some (.int .i64 p) := cell_gb hcp (show wr.grownBy wq none by rw [hwq]; exact gb_drewN (gb_refl wr none) nq)
        clear hwq b0 b1 b2 b3 hcp HIR
        have HK7 := hide (gb_alloc (gb_refl wq none) (.cells #[.int .i64 (-1)] 3))
        have HOW7 := hide (HIQ.out.ho.alloc (.cells #[.int .i64 (-1)] 3))
        have HRD7 := hide (rd_lit wq #[.int .i64 (-1)] 3 [.int .i64 (-1)] rfl)
        have HM7 : Hid (l.length + 1 ≤ maxLen) := hide (by unfold maxLen; have := HLN.out; omega)
        have HMB7 : Hid ((l.length + 1) * 8 ≤ 140737488355328) := hide (by have := HLN.out; omega)
        have HBS7 : Hid (wa.heap.size ≤ (wq.alloc (.cells #[.int .i64 (-1)] 3)).heap.size) := hide (by have := HIQ.out.hg.size; have := HK7.out.size; omega)
        go_wp2_with (at_builtin; refine wpList_append_rd _ rfl (.tmp 32) (.tmp 33) 52 rfl wa.heap.size 3 i1 (.int .i64 0) 1 8 Tryz.underlying52 HI1.out HIZ.out HIS.out HIB.out rfl (Nat.succ_pos 0) u6 l.length (i64s l) rfl HOW7.out (wq.alloc (.cells #[.int .i64 (-1)] 3)).heap.size (some ⟨wq.heap.size, 0, none⟩) 1 1 [.int .i64 (-1)] rfl rfl HRD7.out (cell1 _ _) HM7.out HMB7.out HBS7.out ?_
                     intro v8 w8 ho8 hg8 hl8
                     have HIR8 := hide (HIQ.out.step (-1) HK7.out ho8 hg8)
                     clear ho8 hg8 hl8)
        go_roundw
        case rel => exact ⟨j + 1, _, by go_num, by have := HJ.out; omega, hide HNX.out, HIR8.out⟩
        case measure => have := HJ.out; simp [intOf]; omega
      · have hd : decide (p < 0) = false := decide_eq_false hneg
        by_cases hge : (cn : Int) ≤ p
        · have HN := hide (show nrm cn p = -1 from nrm_out (by omega))
          have HNX := hide (show l ++ [(-1 : Int)] = (ps.take (j + 1)).map (nrm cn) by rw [← HN.out]; exact HNX.out)
          go_upto_region 7 with fail
          go_region_law ((go_simp; go_at_call 30; refine (HCN.out wr.drew (gb_drew HIR.out.hg)).mono ?_; rintro e w3 ⟨rfl, hg3⟩; have HG3 := hide (show wr.grownBy w3 none from ⟨hg3.os, hg3.tape, hg3.output, hg3.size, hg3.block⟩); have hcp := cell_gb hcp HG3.out; have b0 := cell_gb b0 HG3.out; have b1 := cell_gb b1 HG3.out; have b2 := cell_gb b2 HG3.out; have b3 := cell_gb b3 HG3.out; clear hg3))
          all_goals
            have HIQ := hide (HIR.out.gb HG3.out)
            clear HIR
            have HK7 := hide (gb_alloc (gb_refl w3 none) (.cells #[.int .i64 (-1)] 3))
            have HOW7 := hide (HIQ.out.ho.alloc (.cells #[.int .i64 (-1)] 3))
            have HRD7 := hide (rd_lit w3 #[.int .i64 (-1)] 3 [.int .i64 (-1)] rfl)
            have HM7 : Hid (l.length + 1 ≤ maxLen) := hide (by unfold maxLen; have := HLN.out; omega)
            have HMB7 : Hid ((l.length + 1) * 8 ≤ 140737488355328) := hide (by have := HLN.out; omega)
            have HBS7 : Hid (wa.heap.size ≤ (w3.alloc (.cells #[.int .i64 (-1)] 3)).heap.size) := hide (by have := HIQ.out.hg.size; have := HK7.out.size; omega)
            go_wp2_with (at_builtin; refine wpList_append_rd _ rfl (.tmp 32) (.tmp 33) 52 rfl wa.heap.size 3 i1 (.int .i64 0) 1 8 Tryz.underlying52 HI1.out HIZ.out HIS.out HIB.out rfl (Nat.succ_pos 0) u6 l.length (i64s l) rfl HOW7.out (w3.alloc (.cells #[.int .i64 (-1)] 3)).heap.size (some ⟨w3.heap.size, 0, none⟩) 1 1 [.int .i64 (-1)] rfl rfl HRD7.out (cell1 _ _) HM7.out HMB7.out HBS7.out ?_
                         intro v8 w8 ho8 hg8 hl8
                         have HIR8 := hide (HIQ.out.step (-1) HK7.out ho8 hg8)
                         clear ho8 hg8 hl8)
            go_roundw
            case rel => exact ⟨j + 1, _, by go_num, by have := HJ.out; omega, hide HNX.out, HIR8.out⟩
            case measure => have := HJ.out; simp [intOf]; omega
        · have hge2 : p < (cn : Int) := by omega
          have HN := hide (show nrm cn p = p from nrm_in (by omega))
          have HNX := hide (show l ++ [p] = (ps.take (j + 1)).map (nrm cn) by rw [← HNX.out, HN.out])
          go_upto_region 7 with fail
          go_region_law ((go_simp; go_at_call 30; refine (HCN.out wr.drew (gb_drew HIR.out.hg)).mono ?_; rintro e w3 ⟨rfl, hg3⟩; have HG3 := hide (show wr.grownBy w3 none from ⟨hg3.os, hg3.tape, hg3.output, hg3.size, hg3.block⟩); have hcp := cell_gb hcp HG3.out; have b0 := cell_gb b0 HG3.out; have b1 := cell_gb b1 HG3.out; have b2 := cell_gb b2 HG3.out; have b3 := cell_gb b3 HG3.out; clear hg3))
          all_goals
            have HIQ := hide (HIR.out.gb HG3.out)
            clear HIR
            have HK7 := hide (gb_alloc (gb_refl w3 none) (.cells #[.int .i64 p] 3))
            have HOW7 := hide (HIQ.out.ho.alloc (.cells #[.int .i64 p] 3))
            have HRD7 := hide (rd_lit w3 #[.int .i64 p] 3 [.int .i64 p] rfl)
            have HM7 : Hid (l.length + 1 ≤ maxLen) := hide (by unfold maxLen; have := HLN.out; omega)
            have HMB7 : Hid ((l.length + 1) * 8 ≤ 140737488355328) := hide (by have := HLN.out; omega)
            have HBS7 : Hid (wa.heap.size ≤ (w3.alloc (.cells #[.int .i64 p] 3)).heap.size) := hide (by have := HIQ.out.hg.size; have := HK7.out.size; omega)
            go_wp2_with (at_builtin; refine wpList_append_rd _ rfl (.tmp 35) (.tmp 40) 52 rfl wa.heap.size 3 i1 (.int .i64 0) 1 8 Tryz.underlying52 HI1.out HIZ.out HIS.out HIB.out rfl (Nat.succ_pos 0) u6 l.length (i64s l) rfl HOW7.out (w3.alloc (.cells #[.int .i64 p] 3)).heap.size (some ⟨w3.heap.size, 0, none⟩) 1 1 [.int .i64 p] rfl rfl HRD7.out (cell1 _ _) HM7.out HMB7.out HBS7.out ?_
                         intro v8 w8 ho8 hg8 hl8
                         have HIR8 := hide (HIQ.out.step p HK7.out ho8 hg8)
                         clear ho8 hg8 hl8)
            go_roundw
            case rel => exact ⟨j + 1, _, by go_num, by have := HJ.out; omega, hide HNX.out, HIR8.out⟩
            case measure => have := HJ.out; simp [intOf]; omega
    · have hlt1 : ¬ (j : Int) < (ps.length : Int) := by omega
      have HTE := hide (show ps.take j = ps from List.take_of_length_le (by omega))
      rw [HTE.out] at HL
      have HTL := hide (show v.t = 0 → Vl.tots (l.map (pickV v.l emp)) ≤ 1200000000 from fun e => by rw [HL.out]; exact HTT.out e)
      have HGOAL := hide (show idxV v (ps.map (nrm cn)) = idxV v l by rw [HL.out])
      clear hir
      obtain ⟨pA, pc, rfl, _⟩ := own_slice HIR.out.ho
      have HRD := hide (Rd.of_own HIR.out.ho)
      have hgr := HIR.out.hg
      have HGR := hide hgr
      obtain ⟨b0, b1, b2, b3⟩ : C4 wr w.heap.size 0 (.int .i64 v.t) (.slice nA v.n.length nc) (.slice sA v.s.length sc) (.slice lA v.l.length lc) := by have hb := blk_keep HBV.out hgr (by simp); exact ⟨by rw [blk_cell hb]; rfl, by rw [blk_cell hb]; rfl, by rw [blk_cell hb]; rfl, by rw [blk_cell hb]; rfl⟩
      clear hgr
      go_wp2_with (go_at_call 31; refine (HPK.out l pA pc _ HGR.out HRD.out (by have := HLN.out; omega) HTL.out).mono ?_; rintro e w9 ⟨xA, xc, yA, yc, zA, zc, f9, rfl, ho, hn, hg9⟩; have hrr := (hg9.block _ (by have := HGR.out.size; have := HS1.out; omega) (by simp)).trans (blk_keep HR.out HGR.out (by simp)); have HR3 := hide hrr; have z0 := blk_frozen hrr 0; have z1 := blk_frozen hrr 1; have z2 := blk_frozen hrr 2; have z3 := blk_frozen hrr 3; have p0 : w9.cell? ⟨w.heap.size + 1, 0, none⟩ = some (.int .i64 0) := (by { rw [blk_cell hrr]; rfl }); have p1 : w9.cell? ⟨w.heap.size + 1, 1, none⟩ = some (.slice none 0 0) := (by { rw [blk_cell hrr]; rfl }); have p2 : w9.cell? ⟨w.heap.size + 1, 2, none⟩ = some (.slice none 0 0) := (by { rw [blk_cell hrr]; rfl }); have p3 : w9.cell? ⟨w.heap.size + 1, 3, none⟩ = some (.slice none 0 0) := (by { rw [blk_cell hrr]; rfl }); have HF := hide (NewE.fin (x := idxV v l) ho hn (gb_trans HGA.out HGR.out (.inl rfl)) hg9 (Nat.le_succ w.heap.size) (by have := HGR.out.size; have := HS1.out; omega)); clear ho hn hg9 hrr)
      generalize idxV v l = ov at *
      obtain ⟨m0, m1, m2, m3⟩ := C4.put HR3.out (.int .i64 ov.t) (.slice xA ov.n.length xc) (.slice yA ov.s.length yc) (.slice zA ov.l.length zc)
      simp only [put4, Nat.zero_add] at m0 m1 m2 m3
      refine bodyPost_ret (v := .tuple #[.agg #[.int .i64 ov.t, .slice xA ov.n.length xc, .slice yA ov.s.length yc, .slice zA ov.l.length zc], .int .i64 0]) (by simp [results, Tryz.results18, go_sem, m0, m1, m2, m3]) rfl ?_
      rw [HGOAL.out]
      exact HF.out
end Go.Proofs.YtkbflmaflokpdaaGreat

namespace Go.Proofs.YtkbflmaflokpdaaGreat
open Go.RowKit
attribute [local go_sem ↓] Go.wp_at_zero Go.wp_at_succ

theorem tkR_zero {c : Nat} (h : c = 0) (i : Int) : tkR c i = -1 := by unfold tkR; rw [if_pos h]
theorem tkR_pos {c : Nat} (h : c ≠ 0) (j : Nat) : tkR c (j : Int) = (j : Int) % (c : Int) := by unfold tkR; rw [if_neg h, if_pos (by omega)]; rfl
theorem tkR_neg {c : Nat} (h : c ≠ 0) (k : Nat) (hk : 0 < k) : tkR c (-(k : Int)) = -((k : Int) % (c : Int)) % (c : Int) := by
  unfold tkR
  rw [if_neg h, if_neg (by omega), show (- -(k : Int)).toNat = k by omega]
  have hlt := Nat.mod_lt k (show 0 < c by omega)
  rw [Int.natCast_emod, Int.natCast_sub (by omega), Int.natCast_emod]
  simp
set_option maxHeartbeats 8000000 in
set_option maxRecDepth 100000 in
theorem rTake_pos (m : Nat) (hm : m ≤ 1000) (v : Vl) (w : World) (B : Nat) (nA : Option Addr) (nc : Nat) (sA : Option Addr) (sc : Nat) (lA : Option Addr) (lc : Nat) (hs : seqT v.t) (ht : v.tot ≤ 500000000) (hc : v.count ≤ 65536) (hB : B ≤ w.heap.size) (h : VB w B v nA nc sA sc lA lc) (htt : v.t = 0 → Vl.tots (((rowI 0 m).map (tkR v.count)).map (pickV v.l emp)) ≤ 1200000000) :
    Calls Tryz.prog 14 #[.int .i64 (m : Int), .agg #[.int .i64 v.t, .slice nA v.n.length nc, .slice sA v.s.length sc, .slice lA v.l.length lc]] w (NewE (idxV v ((rowI 0 m).map (tkR v.count))) w) := by
  obtain ⟨w1, hw1⟩ : ∃ w1, w1 = w.alloc (.cells #[.int .i64 v.t, .slice nA v.n.length nc, .slice sA v.s.length sc, .slice lA v.l.length lc] 26) := ⟨_, rfl⟩
  obtain ⟨wa, hwa⟩ : ∃ wa, wa = w1.alloc (.cells #[.int .i64 0, .slice none 0 0, .slice none 0 0, .slice none 0 0] 26) := ⟨_, rfl⟩
  have hs1 : w1.heap.size = w.heap.size + 1 := by rw [hw1]; simp
  have hg1 : w.grownBy w1 none := by rw [hw1]; exact gb_alloc (gb_refl w none) _
  have hga1 : w1.grownBy wa none := by rw [hwa]; exact gb_alloc (gb_refl w1 none) _
  have hga := gb_trans hg1 hga1 (.inl rfl)
  have hbv : wa.heap[w.heap.size]? = some (.cells #[.int .i64 v.t, .slice nA v.n.length nc, .slice sA v.s.length sc, .slice lA v.l.length lc] 26 (0, 0)) := (hga1.block _ (by omega) (by simp)).trans (by rw [hw1]; exact heap_alloc_new w _)
  have hr : wa.heap[w.heap.size + 1]? = some (.cells #[.int .i64 0, .slice none 0 0, .slice none 0 0, .slice none 0 0] 26 (0, 0)) := by rw [← hs1, hwa]; exact heap_alloc_new w1 _
  have HGA := hide hga
  have HBV := hide hbv
  have HR := hide hr
  have HWE := hide hwa
  have HW1 := hide hw1
  have HPT := hide (fun w2 => part_yes v.t hs (.slice nA v.n.length nc) (.slice sA v.s.length sc) (.slice lA v.l.length lc) w2)
  have HCN := hide (fun (w2 : World) (hg : wa.grownBy w2 none) => rCount_any v w2 B nA nc sA sc lA lc (by omega) (Nat.le_trans hB (Nat.le_trans hga.size hg.size)) (h.gb (gb_trans hga hg (.inl rfl)) hB))
  have HPK := hide (fun (l : List Int) (pA : Option Addr) (pc : Nat) (w2 : World) (hg : wa.grownBy w2 none) (hr : Rd w2 w2.heap.size pA (i64s l)) (hl : l.length ≤ 100000) (htt : v.t = 0 → Vl.tots (l.map (pickV v.l emp)) ≤ 1200000000) => pick_any v l w2 B nA nc sA sc lA lc pA pc hs ht (Nat.le_trans hB (Nat.le_trans hga.size hg.size)) (h.gb (gb_trans hga hg (.inl rfl)) hB) hr hl htt)
  have HC := hide hc
  have HTT := hide htt
  have HS1 := hide (show w.heap.size + 1 < wa.heap.size from blk_lt hr)
  obtain ⟨i1, hi1, hiz, his, hib⟩ := info_parts Tryz.infoInt
  have HI1 := hide hi1
  have HIZ := hide hiz
  have HIS := hide his
  have HIB := hide hib
  clear hs1 hg1 hga1 hga hbv hr hwa hw1 hB hs ht h hc htt hi1 hiz his hib
  generalize v.count = cn at *
  go_enter Tryz.func14, Tryz.ntmps14
  go_wp2_with fail
  rw [← HW1.out]
  rw [← HWE.out]
  obtain ⟨b0, b1, b2, b3⟩ : C4 wa w.heap.size 0 (.int .i64 v.t) (.slice nA v.n.length nc) (.slice sA v.s.length sc) (.slice lA v.l.length lc) := ⟨by rw [blk_cell HBV.out]; rfl, by rw [blk_cell HBV.out]; rfl, by rw [blk_cell HBV.out]; rfl, by rw [blk_cell HBV.out]; rfl⟩
  go_wp2_with (first
    | (go_at_call 29; refine (HPT.out _).mono ?_; rintro e w2 ⟨rfl, hg2⟩; have HG2 := hide hg2; have b0 := cell_gb b0 hg2; have b1 := cell_gb b1 hg2; have b2 := cell_gb b2 hg2; have b3 := cell_gb b3 hg2; clear hg2)
    | (go_at_call 30; refine (HCN.out _ HG2.out).mono ?_; rintro e w3 ⟨rfl, hg3⟩; have HG3 := hide (gb_trans HG2.out hg3 (.inl rfl)); have b0 := cell_gb b0 hg3; have b1 := cell_gb b1 hg3; have b2 := cell_gb b2 hg3; have b3 := cell_gb b3 hg3; clear hg3))
  clear b0 b1 b2 b3
  go_loopw [7, 8] (fun u i wr => ∃ (j : Nat) (l : List Int), i = .int .i64 (j : Int) ∧ j ≤ m ∧ Hid (l = (rowI 0 j).map (tkR cn)) ∧ IRow wa wr u l) (fun _ i _ => m - (intOf i).toNat)
  case atStart => exact ⟨0, [], rfl, Nat.zero_le _, hide rfl, IRow.nil_ wa _ HG3.out⟩
  case round =>
    obtain ⟨j, l, rfl, hj, HL, hir⟩ := hrel
    have HIR := hide hir
    have HLN := hide (show l.length ≤ 65536 by rw [HL.out, List.length_map, rowI_length]; omega)
    clear hir
    by_cases hlt : j < m
    · have hlt1 : (j : Int) < (m : Int) := by omega
      have h6 : IntKind.i64.wrap ((j : Int) + 1) = ((j + 1 : Nat) : Int) := by rw [IntKind.wrap_i64]; omega
      have HJ := hide hlt
      have HNX := hide (show l ++ [tkR cn (j : Int)] = (rowI 0 (j + 1)).map (tkR cn) by rw [HL.out]; show _ = ((rowI 0 j) ++ [0 + (j : Int)]).map _; rw [List.map_append, Int.zero_add]; rfl)
      by_cases hc0 : cn = 0
      · have e0 : ((cn : Int) == 0) = true := int_beq_t (by omega)
        have HNX := hide (show l ++ [(-1 : Int)] = (rowI 0 (j + 1)).map (tkR cn) by rw [← HNX.out, tkR_zero hc0])
        clear hlt hj hc0
        have HK7 := hide (gb_alloc (gb_refl wr none) (.cells #[.int .i64 (-1)] 3))
        have HOW7 := hide (HIR.out.ho.alloc (.cells #[.int .i64 (-1)] 3))
        have HRD7 := hide (rd_lit wr #[.int .i64 (-1)] 3 [.int .i64 (-1)] rfl)
        have HM7 : Hid (l.length + 1 ≤ maxLen) := hide (by unfold maxLen; have := HLN.out; omega)
        have HMB7 : Hid ((l.length + 1) * 8 ≤ 140737488355328) := hide (by have := HLN.out; omega)
        have HBS7 : Hid (wa.heap.size ≤ (wr.alloc (.cells #[.int .i64 (-1)] 3)).heap.size) := hide (by have := HIR.out.hg.size; have := HK7.out.size; omega)
        go_wp2_with (at_builtin; refine wpList_append_rd _ rfl (.tmp 30) (.tmp 31) 52 rfl wa.heap.size 3 i1 (.int .i64 0) 1 8 Tryz.underlying52 HI1.out HIZ.out HIS.out HIB.out rfl (Nat.succ_pos 0) u7 l.length (i64s l) rfl HOW7.out (wr.alloc (.cells #[.int .i64 (-1)] 3)).heap.size (some ⟨wr.heap.size, 0, none⟩) 1 1 [.int .i64 (-1)] rfl rfl HRD7.out (cell1 _ _) HM7.out HMB7.out HBS7.out ?_
                     intro v8 w8 ho8 hg8 hl8
                     have HIR8 := hide (HIR.out.step (-1) HK7.out ho8 hg8)
                     clear ho8 hg8 hl8)
        go_roundw
        case rel => exact ⟨j + 1, _, by go_num, by have := HJ.out; omega, hide HNX.out, HIR8.out⟩
        case measure => have := HJ.out; simp [intOf]; omega
      · have e0 : ((cn : Int) == 0) = false := int_beq_f (by omega)
        have hcp : (0 : Int) < (cn : Int) := by omega
        have hcn : (cn : Int) ≤ 65536 := by have := HC.out; omega
        have HNX := hide (show l ++ [((j : Int) % (cn : Int))] = (rowI 0 (j + 1)).map (tkR cn) by rw [← HNX.out, tkR_pos hc0])
        clear hlt hj hc0
        have HK7 := hide (gb_alloc (gb_refl wr none) (.cells #[.int .i64 ((j : Int) % (cn : Int))] 3))
        have HOW7 := hide (HIR.out.ho.alloc (.cells #[.int .i64 ((j : Int) % (cn : Int))] 3))
        have HRD7 := hide (rd_lit wr #[.int .i64 ((j : Int) % (cn : Int))] 3 [.int .i64 ((j : Int) % (cn : Int))] rfl)
        have HM7 : Hid (l.length + 1 ≤ maxLen) := hide (by unfold maxLen; have := HLN.out; omega)
        have HMB7 : Hid ((l.length + 1) * 8 ≤ 140737488355328) := hide (by have := HLN.out; omega)
        have HBS7 : Hid (wa.heap.size ≤ (wr.alloc (.cells #[.int .i64 ((j : Int) % (cn : Int))] 3)).heap.size) := hide (by have := HIR.out.hg.size; have := HK7.out.size; omega)
        go_wp2_with (at_builtin; refine wpList_append_rd _ rfl (.tmp 33) (.tmp 37) 52 rfl wa.heap.size 3 i1 (.int .i64 0) 1 8 Tryz.underlying52 HI1.out HIZ.out HIS.out HIB.out rfl (Nat.succ_pos 0) u7 l.length (i64s l) rfl HOW7.out (wr.alloc (.cells #[.int .i64 ((j : Int) % (cn : Int))] 3)).heap.size (some ⟨wr.heap.size, 0, none⟩) 1 1 [.int .i64 ((j : Int) % (cn : Int))] rfl rfl HRD7.out (cell1 _ _) HM7.out HMB7.out HBS7.out ?_
                     intro v8 w8 ho8 hg8 hl8
                     have HIR8 := hide (HIR.out.step ((j : Int) % (cn : Int)) HK7.out ho8 hg8)
                     clear ho8 hg8 hl8)
        go_roundw
        case rel => exact ⟨j + 1, _, by go_num, by have := HJ.out; omega, hide HNX.out, HIR8.out⟩
        case measure => have := HJ.out; simp [intOf]; omega
    · have hlt1 : ¬ (j : Int) < (m : Int) := by omega
      obtain rfl : j = m := by omega
      clear hlt hj
      obtain ⟨w4, rfl⟩ : ∃ w4, w4 = wr := ⟨_, rfl⟩
      go_wp2_with fail
      go_loopw [7, 9] (fun u i wr => i = .int .i64 (j : Int) ∧ IRow wa wr u l) (fun _ _ _ => 0)
      case atStart => exact ⟨rfl, HIR.out⟩
      case round =>
        obtain ⟨rfl, hir⟩ := hrel
        clear HIR
        have HIR := hide hir
        clear hir
        have HTL := hide (show v.t = 0 → Vl.tots (l.map (pickV v.l emp)) ≤ 1200000000 from fun e => by rw [HL.out]; exact HTT.out e)
        have HGOAL := hide (show idxV v ((rowI 0 j).map (tkR cn)) = idxV v l by rw [HL.out])
        obtain ⟨pA, pc, rfl, _⟩ := own_slice HIR.out.ho
        have HRD := hide (Rd.of_own HIR.out.ho)
        have hgr := HIR.out.hg
        have HGR := hide hgr
        obtain ⟨b0, b1, b2, b3⟩ : C4 wr w.heap.size 0 (.int .i64 v.t) (.slice nA v.n.length nc) (.slice sA v.s.length sc) (.slice lA v.l.length lc) := by have hb := blk_keep HBV.out hgr (by simp); exact ⟨by rw [blk_cell hb]; rfl, by rw [blk_cell hb]; rfl, by rw [blk_cell hb]; rfl, by rw [blk_cell hb]; rfl⟩
        clear hgr
        go_wp2_with (go_at_call 31; refine (HPK.out l pA pc _ HGR.out HRD.out (by have := HLN.out; omega) HTL.out).mono ?_; rintro e w9 ⟨xA, xc, yA, yc, zA, zc, f9, rfl, ho, hn, hg9⟩; have hrr := (hg9.block _ (by have := HGR.out.size; have := HS1.out; omega) (by simp)).trans (blk_keep HR.out HGR.out (by simp)); have HR3 := hide hrr; have z0 := blk_frozen hrr 0; have z1 := blk_frozen hrr 1; have z2 := blk_frozen hrr 2; have z3 := blk_frozen hrr 3; have p0 : w9.cell? ⟨w.heap.size + 1, 0, none⟩ = some (.int .i64 0) := (by { rw [blk_cell hrr]; rfl }); have p1 : w9.cell? ⟨w.heap.size + 1, 1, none⟩ = some (.slice none 0 0) := (by { rw [blk_cell hrr]; rfl }); have p2 : w9.cell? ⟨w.heap.size + 1, 2, none⟩ = some (.slice none 0 0) := (by { rw [blk_cell hrr]; rfl }); have p3 : w9.cell? ⟨w.heap.size + 1, 3, none⟩ = some (.slice none 0 0) := (by { rw [blk_cell hrr]; rfl }); have HF := hide (NewE.fin (x := idxV v l) ho hn (gb_trans HGA.out HGR.out (.inl rfl)) hg9 (Nat.le_succ w.heap.size) (by have := HGR.out.size; have := HS1.out; omega)); clear ho hn hg9 hrr)
        generalize idxV v l = ov at *
        obtain ⟨m0, m1, m2, m3⟩ := C4.put HR3.out (.int .i64 ov.t) (.slice xA ov.n.length xc) (.slice yA ov.s.length yc) (.slice zA ov.l.length zc)
        simp only [put4, Nat.zero_add] at m0 m1 m2 m3
        refine bodyPost_ret (v := .tuple #[.agg #[.int .i64 ov.t, .slice xA ov.n.length xc, .slice yA ov.s.length yc, .slice zA ov.l.length zc], .int .i64 0]) (by simp [results, Tryz.results14, go_sem, m0, m1, m2, m3]) rfl ?_
        rw [HGOAL.out]
        exact HF.out
set_option maxHeartbeats 8000000 in
set_option maxRecDepth 100000 in
theorem rTake_neg (m : Nat) (hm : m ≤ 1000) (hm0 : 0 < m) (v : Vl) (w : World) (B : Nat) (nA : Option Addr) (nc : Nat) (sA : Option Addr) (sc : Nat) (lA : Option Addr) (lc : Nat) (hs : seqT v.t) (ht : v.tot ≤ 500000000) (hc : v.count ≤ 65536) (hB : B ≤ w.heap.size) (h : VB w B v nA nc sA sc lA lc) (htt : v.t = 0 → Vl.tots (((rowI (-(m : Int)) m).map (tkR v.count)).map (pickV v.l emp)) ≤ 1200000000) :
    Calls Tryz.prog 14 #[.int .i64 (-(m : Int)), .agg #[.int .i64 v.t, .slice nA v.n.length nc, .slice sA v.s.length sc, .slice lA v.l.length lc]] w (NewE (idxV v ((rowI (-(m : Int)) m).map (tkR v.count))) w) := by
  obtain ⟨w1, hw1⟩ : ∃ w1, w1 = w.alloc (.cells #[.int .i64 v.t, .slice nA v.n.length nc, .slice sA v.s.length sc, .slice lA v.l.length lc] 26) := ⟨_, rfl⟩
  obtain ⟨wa, hwa⟩ : ∃ wa, wa = w1.alloc (.cells #[.int .i64 0, .slice none 0 0, .slice none 0 0, .slice none 0 0] 26) := ⟨_, rfl⟩
  have hs1 : w1.heap.size = w.heap.size + 1 := by rw [hw1]; simp
  have hg1 : w.grownBy w1 none := by rw [hw1]; exact gb_alloc (gb_refl w none) _
  have hga1 : w1.grownBy wa none := by rw [hwa]; exact gb_alloc (gb_refl w1 none) _
  have hga := gb_trans hg1 hga1 (.inl rfl)
  have hbv : wa.heap[w.heap.size]? = some (.cells #[.int .i64 v.t, .slice nA v.n.length nc, .slice sA v.s.length sc, .slice lA v.l.length lc] 26 (0, 0)) := (hga1.block _ (by omega) (by simp)).trans (by rw [hw1]; exact heap_alloc_new w _)
  have hr : wa.heap[w.heap.size + 1]? = some (.cells #[.int .i64 0, .slice none 0 0, .slice none 0 0, .slice none 0 0] 26 (0, 0)) := by rw [← hs1, hwa]; exact heap_alloc_new w1 _
  have HGA := hide hga
  have HBV := hide hbv
  have HR := hide hr
  have HWE := hide hwa
  have HW1 := hide hw1
  have HPT := hide (fun w2 => part_yes v.t hs (.slice nA v.n.length nc) (.slice sA v.s.length sc) (.slice lA v.l.length lc) w2)
  have HCN := hide (fun (w2 : World) (hg : wa.grownBy w2 none) => rCount_any v w2 B nA nc sA sc lA lc (by omega) (Nat.le_trans hB (Nat.le_trans hga.size hg.size)) (h.gb (gb_trans hga hg (.inl rfl)) hB))
  have HPK := hide (fun (l : List Int) (pA : Option Addr) (pc : Nat) (w2 : World) (hg : wa.grownBy w2 none) (hr : Rd w2 w2.heap.size pA (i64s l)) (hl : l.length ≤ 100000) (htt : v.t = 0 → Vl.tots (l.map (pickV v.l emp)) ≤ 1200000000) => pick_any v l w2 B nA nc sA sc lA lc pA pc hs ht (Nat.le_trans hB (Nat.le_trans hga.size hg.size)) (h.gb (gb_trans hga hg (.inl rfl)) hB) hr hl htt)
  have HC := hide hc
  have HTT := hide htt
  have HS1 := hide (show w.heap.size + 1 < wa.heap.size from blk_lt hr)
  obtain ⟨i1, hi1, hiz, his, hib⟩ := info_parts Tryz.infoInt
  have HI1 := hide hi1
  have HIZ := hide hiz
  have HIS := hide his
  have HIB := hide hib
  clear hs1 hg1 hga1 hga hbv hr hwa hw1 hB hs ht h hc htt hi1 hiz his hib
  generalize v.count = cn at *
  go_enter Tryz.func14, Tryz.ntmps14
  go_wp2_with fail
  rw [← HW1.out]
  rw [← HWE.out]
  obtain ⟨b0, b1, b2, b3⟩ : C4 wa w.heap.size 0 (.int .i64 v.t) (.slice nA v.n.length nc) (.slice sA v.s.length sc) (.slice lA v.l.length lc) := ⟨by rw [blk_cell HBV.out]; rfl, by rw [blk_cell HBV.out]; rfl, by rw [blk_cell HBV.out]; rfl, by rw [blk_cell HBV.out]; rfl⟩
  go_wp2_with (first
    | (go_at_call 29; refine (HPT.out _).mono ?_; rintro e w2 ⟨rfl, hg2⟩; have HG2 := hide hg2; have b0 := cell_gb b0 hg2; have b1 := cell_gb b1 hg2; have b2 := cell_gb b2 hg2; have b3 := cell_gb b3 hg2; clear hg2)
    | (go_at_call 30; refine (HCN.out _ HG2.out).mono ?_; rintro e w3 ⟨rfl, hg3⟩; have HG3 := hide (gb_trans HG2.out hg3 (.inl rfl)); have b0 := cell_gb b0 hg3; have b1 := cell_gb b1 hg3; have b2 := cell_gb b2 hg3; have b3 := cell_gb b3 hg3; clear hg3))
  clear b0 b1 b2 b3
  go_loopw [7, 8] (fun u i wr => i = .int .i64 0 ∧ IRow wa wr u []) (fun _ _ _ => 0)
  case atStart => exact ⟨rfl, IRow.nil_ wa _ HG3.out⟩
  case round =>
    obtain ⟨rfl, hir⟩ := hrel
    have HIR := hide hir
    clear hir
    obtain ⟨w4, rfl⟩ : ∃ w4, w4 = wr := ⟨_, rfl⟩
    go_wp2_with fail
    go_loopw [7, 9] (fun u i wr => ∃ (k : Nat) (l : List Int), i = .int .i64 (-(k : Int)) ∧ k ≤ m ∧ Hid (l = (rowI (-(m : Int)) (m - k)).map (tkR cn)) ∧ IRow wa wr u l) (fun _ i _ => (-intOf i).toNat)
    case atStart => exact ⟨m, [], rfl, Nat.le_refl _, hide (by rw [Nat.sub_self]; rfl), HIR.out⟩
    case round =>
      obtain ⟨k, l, rfl, hk, HL, hir⟩ := hrel
      clear HIR
      have HIR := hide hir
      have HLN := hide (show l.length ≤ 65536 by rw [HL.out, List.length_map, rowI_length]; omega)
      clear hir
      by_cases hlt : 0 < k
      · have hlt1 : -(k : Int) < 0 := by omega
        have h6 : IntKind.i64.wrap (-(k : Int) + 1) = -((k - 1 : Nat) : Int) := by rw [IntKind.wrap_i64]; omega
        have h7 : IntKind.i64.wrap (k : Int) = (k : Int) := by rw [IntKind.wrap_i64]; omega
        have HJ := hide (And.intro hlt hk)
        have HNX := hide (show l ++ [tkR cn (-(k : Int))] = (rowI (-(m : Int)) (m - (k - 1))).map (tkR cn) by rw [HL.out, show m - (k - 1) = (m - k) + 1 by omega]; show _ = ((rowI _ (m - k)) ++ [-(m : Int) + ((m - k : Nat) : Int)]).map _; rw [List.map_append, show -(m : Int) + ((m - k : Nat) : Int) = -(k : Int) by omega]; rfl)
        by_cases hc0 : cn = 0
        · have e0 : ((cn : Int) == 0) = true := int_beq_t (by omega)
          have HNX := hide (show l ++ [(-1 : Int)] = (rowI (-(m : Int)) (m - (k - 1))).map (tkR cn) by rw [← HNX.out, tkR_zero hc0])
          clear hlt hk hc0
          have HK7 := hide (gb_alloc (gb_refl wr none) (.cells #[.int .i64 (-1)] 3))
          have HOW7 := hide (HIR.out.ho.alloc (.cells #[.int .i64 (-1)] 3))
          have HRD7 := hide (rd_lit wr #[.int .i64 (-1)] 3 [.int .i64 (-1)] rfl)
          have HM7 : Hid (l.length + 1 ≤ maxLen) := hide (by unfold maxLen; have := HLN.out; omega)
          have HMB7 : Hid ((l.length + 1) * 8 ≤ 140737488355328) := hide (by have := HLN.out; omega)
          have HBS7 : Hid (wa.heap.size ≤ (wr.alloc (.cells #[.int .i64 (-1)] 3)).heap.size) := hide (by have := HIR.out.hg.size; have := HK7.out.size; omega)
          go_wp2_with (at_builtin; refine wpList_append_rd _ rfl (.tmp 46) (.tmp 47) 52 rfl wa.heap.size 3 i1 (.int .i64 0) 1 8 Tryz.underlying52 HI1.out HIZ.out HIS.out HIB.out rfl (Nat.succ_pos 0) u7 l.length (i64s l) rfl HOW7.out (wr.alloc (.cells #[.int .i64 (-1)] 3)).heap.size (some ⟨wr.heap.size, 0, none⟩) 1 1 [.int .i64 (-1)] rfl rfl HRD7.out (cell1 _ _) HM7.out HMB7.out HBS7.out ?_
                       intro v8 w8 ho8 hg8 hl8
                       have HIR8 := hide (HIR.out.step (-1) HK7.out ho8 hg8)
                       clear ho8 hg8 hl8)
          go_roundw
          case rel => exact ⟨k - 1, _, rfl, by have := HJ.out.2; omega, hide HNX.out, HIR8.out⟩
          case measure => have := HJ.out; simp [intOf]; omega
        · have e0 : ((cn : Int) == 0) = false := int_beq_f (by omega)
          have hcp : (0 : Int) < (cn : Int) := by omega
          have hcn : (cn : Int) ≤ 65536 := by have := HC.out; omega
          have hkp : (0 : Int) ≤ (k : Int) % (cn : Int) := Int.emod_nonneg _ (by omega)
          have hkl : (k : Int) % (cn : Int) < (cn : Int) := Int.emod_lt_of_pos _ hcp
          have h8 : IntKind.i64.wrap ((cn : Int) - (k : Int) % (cn : Int)) = (cn : Int) - (k : Int) % (cn : Int) := by rw [IntKind.wrap_i64]; omega
          have h9 : 0 ≤ (cn : Int) - (k : Int) % (cn : Int) := by omega
          have HNX := hide (show l ++ [(-((k : Int) % (cn : Int)) % (cn : Int))] = (rowI (-(m : Int)) (m - (k - 1))).map (tkR cn) by rw [← HNX.out, tkR_neg hc0 k hlt])
          clear hlt hk hc0
          have HK7 := hide (gb_alloc (gb_refl wr none) (.cells #[.int .i64 (-((k : Int) % (cn : Int)) % (cn : Int))] 3))
          have HOW7 := hide (HIR.out.ho.alloc (.cells #[.int .i64 (-((k : Int) % (cn : Int)) % (cn : Int))] 3))
          have HRD7 := hide (rd_lit wr #[.int .i64 (-((k : Int) % (cn : Int)) % (cn : Int))] 3 [.int .i64 (-((k : Int) % (cn : Int)) % (cn : Int))] rfl)
          have HM7 : Hid (l.length + 1 ≤ maxLen) := hide (by unfold maxLen; have := HLN.out; omega)
          have HMB7 : Hid ((l.length + 1) * 8 ≤ 140737488355328) := hide (by have := HLN.out; omega)
          have HBS7 : Hid (wa.heap.size ≤ (wr.alloc (.cells #[.int .i64 (-((k : Int) % (cn : Int)) % (cn : Int))] 3)).heap.size) := hide (by have := HIR.out.hg.size; have := HK7.out.size; omega)
          go_wp2_with (at_builtin; refine wpList_append_rd _ rfl (.tmp 49) (.tmp 58) 52 rfl wa.heap.size 3 i1 (.int .i64 0) 1 8 Tryz.underlying52 HI1.out HIZ.out HIS.out HIB.out rfl (Nat.succ_pos 0) u7 l.length (i64s l) rfl HOW7.out (wr.alloc (.cells #[.int .i64 (-((k : Int) % (cn : Int)) % (cn : Int))] 3)).heap.size (some ⟨wr.heap.size, 0, none⟩) 1 1 [.int .i64 (-((k : Int) % (cn : Int)) % (cn : Int))] rfl rfl HRD7.out (cell1 _ _) HM7.out HMB7.out HBS7.out ?_
                       intro v8 w8 ho8 hg8 hl8
                       have HIR8 := hide (HIR.out.step (-((k : Int) % (cn : Int)) % (cn : Int)) HK7.out ho8 hg8)
                       clear ho8 hg8 hl8)
          go_roundw
          case rel => exact ⟨k - 1, _, rfl, by have := HJ.out.2; omega, hide HNX.out, HIR8.out⟩
          case measure => have := HJ.out; simp [intOf]; omega
      · obtain rfl : k = 0 := by omega
        clear hlt hk
        have HTL := hide (show v.t = 0 → Vl.tots (l.map (pickV v.l emp)) ≤ 1200000000 from fun e => by rw [HL.out]; exact HTT.out e)
        have HGOAL := hide (show idxV v ((rowI (-(m : Int)) m).map (tkR cn)) = idxV v l by rw [HL.out]; rfl)
        obtain ⟨pA, pc, rfl, _⟩ := own_slice HIR.out.ho
        have HRD := hide (Rd.of_own HIR.out.ho)
        have hgr := HIR.out.hg
        have HGR := hide hgr
        obtain ⟨b0, b1, b2, b3⟩ : C4 wr w.heap.size 0 (.int .i64 v.t) (.slice nA v.n.length nc) (.slice sA v.s.length sc) (.slice lA v.l.length lc) := by have hb := blk_keep HBV.out hgr (by simp); exact ⟨by rw [blk_cell hb]; rfl, by rw [blk_cell hb]; rfl, by rw [blk_cell hb]; rfl, by rw [blk_cell hb]; rfl⟩
        clear hgr
        go_wp2_with (go_at_call 31; refine (HPK.out l pA pc _ HGR.out HRD.out (by have := HLN.out; omega) HTL.out).mono ?_; rintro e w9 ⟨xA, xc, yA, yc, zA, zc, f9, rfl, ho, hn, hg9⟩; have hrr := (hg9.block _ (by have := HGR.out.size; have := HS1.out; omega) (by simp)).trans (blk_keep HR.out HGR.out (by simp)); have HR3 := hide hrr; have z0 := blk_frozen hrr 0; have z1 := blk_frozen hrr 1; have z2 := blk_frozen hrr 2; have z3 := blk_frozen hrr 3; have p0 : w9.cell? ⟨w.heap.size + 1, 0, none⟩ = some (.int .i64 0) := (by { rw [blk_cell hrr]; rfl }); have p1 : w9.cell? ⟨w.heap.size + 1, 1, none⟩ = some (.slice none 0 0) := (by { rw [blk_cell hrr]; rfl }); have p2 : w9.cell? ⟨w.heap.size + 1, 2, none⟩ = some (.slice none 0 0) := (by { rw [blk_cell hrr]; rfl }); have p3 : w9.cell? ⟨w.heap.size + 1, 3, none⟩ = some (.slice none 0 0) := (by { rw [blk_cell hrr]; rfl }); have HF := hide (NewE.fin (x := idxV v l) ho hn (gb_trans HGA.out HGR.out (.inl rfl)) hg9 (Nat.le_succ w.heap.size) (by have := HGR.out.size; have := HS1.out; omega)); clear ho hn hg9 hrr)
        generalize idxV v l = ov at *
        obtain ⟨m0, m1, m2, m3⟩ := C4.put HR3.out (.int .i64 ov.t) (.slice xA ov.n.length xc) (.slice yA ov.s.length yc) (.slice zA ov.l.length zc)
        simp only [put4, Nat.zero_add] at m0 m1 m2 m3
        refine bodyPost_ret (v := .tuple #[.agg #[.int .i64 ov.t, .slice xA ov.n.length xc, .slice yA ov.s.length yc, .slice zA ov.l.length zc], .int .i64 0]) (by simp [results, Tryz.results14, go_sem, m0, m1, m2, m3]) rfl ?_
        rw [HGOAL.out]
        exact HF.out
end Go.Proofs.YtkbflmaflokpdaaGreat

namespace Go.Proofs.YtkbflmaflokpdaaGreat
open Go.RowKit
attribute [local go_sem ↓] Go.wp_at_zero Go.wp_at_succ

/-- How many of the first j places are kept. -/
def mj (fi en : Int) (j : Nat) : Nat := (min (j : Int) en - fi).toNat
theorem mj_in {fi en : Int} {j : Nat} (h : fi ≤ (j : Int) ∧ (j : Int) < en) : mj fi en (j + 1) = mj fi en j + 1 ∧ fi + (mj fi en j : Int) = (j : Int) := by
  unfold mj
  omega
theorem mj_out {fi en : Int} {j : Nat} (h : ¬ (fi ≤ (j : Int) ∧ (j : Int) < en)) : mj fi en (j + 1) = mj fi en j := by
  unfold mj
  omega
theorem mj_zero {fi en : Int} (h : 0 ≤ fi) : mj fi en 0 = 0 := by
  unfold mj
  omega
set_option maxHeartbeats 16000000 in
set_option maxRecDepth 100000 in
theorem rDrop_any (n fi en : Int) (m : Nat) (v : Vl) (w : World) (B : Nat) (nA : Option Addr) (nc : Nat) (sA : Option Addr) (sc : Nat) (lA : Option Addr) (lc : Nat) (hn : -9223372036854775808 ≤ n ∧ n ≤ 9223372036854775807) (hfi : max n 0 = fi) (hen : max ((v.count : Int) + min n 0) fi = en) (hm : en - fi = (m : Int)) (hs : seqT v.t) (ht : v.tot ≤ 500000000) (hc : v.count ≤ 65536) (hB : B ≤ w.heap.size) (h : VB w B v nA nc sA sc lA lc) (htt : v.t = 0 → Vl.tots ((rowI fi m).map (pickV v.l emp)) ≤ 1200000000) :
    Calls Tryz.prog 16 #[.int .i64 n, .agg #[.int .i64 v.t, .slice nA v.n.length nc, .slice sA v.s.length sc, .slice lA v.l.length lc]] w (NewE (idxV v (rowI fi m)) w) := by
  obtain ⟨w1, hw1⟩ : ∃ w1, w1 = w.alloc (.cells #[.int .i64 v.t, .slice nA v.n.length nc, .slice sA v.s.length sc, .slice lA v.l.length lc] 26) := ⟨_, rfl⟩
  obtain ⟨wa, hwa⟩ : ∃ wa, wa = w1.alloc (.cells #[.int .i64 0, .slice none 0 0, .slice none 0 0, .slice none 0 0] 26) := ⟨_, rfl⟩
  have hs1 : w1.heap.size = w.heap.size + 1 := by rw [hw1]; simp
  have hg1 : w.grownBy w1 none := by rw [hw1]; exact gb_alloc (gb_refl w none) _
  have hga1 : w1.grownBy wa none := by rw [hwa]; exact gb_alloc (gb_refl w1 none) _
  have hga := gb_trans hg1 hga1 (.inl rfl)
  have hbv : wa.heap[w.heap.size]? = some (.cells #[.int .i64 v.t, .slice nA v.n.length nc, .slice sA v.s.length sc, .slice lA v.l.length lc] 26 (0, 0)) := (hga1.block _ (by omega) (by simp)).trans (by rw [hw1]; exact heap_alloc_new w _)
  have hr : wa.heap[w.heap.size + 1]? = some (.cells #[.int .i64 0, .slice none 0 0, .slice none 0 0, .slice none 0 0] 26 (0, 0)) := by rw [← hs1, hwa]; exact heap_alloc_new w1 _
  have HGA := hide hga
  have HBV := hide hbv
  have HR := hide hr
  have HWE := hide hwa
  have HW1 := hide hw1
  have HPT := hide (fun w2 => part_yes v.t hs (.slice nA v.n.length nc) (.slice sA v.s.length sc) (.slice lA v.l.length lc) w2)
  have HCN := hide (fun (w2 : World) (hg : wa.grownBy w2 none) => rCount_any v w2 B nA nc sA sc lA lc (by omega) (Nat.le_trans hB (Nat.le_trans hga.size hg.size)) (h.gb (gb_trans hga hg (.inl rfl)) hB))
  have HPK := hide (fun (l : List Int) (pA : Option Addr) (pc : Nat) (w2 : World) (hg : wa.grownBy w2 none) (hr : Rd w2 w2.heap.size pA (i64s l)) (hl : l.length ≤ 100000) (htt : v.t = 0 → Vl.tots (l.map (pickV v.l emp)) ≤ 1200000000) => pick_any v l w2 B nA nc sA sc lA lc pA pc hs ht (Nat.le_trans hB (Nat.le_trans hga.size hg.size)) (h.gb (gb_trans hga hg (.inl rfl)) hB) hr hl htt)
  have HC := hide hc
  have HTT := hide htt
  have HS1 := hide (show w.heap.size + 1 < wa.heap.size from blk_lt hr)
  obtain ⟨i1, hi1, hiz, his, hib⟩ := info_parts Tryz.infoInt
  have HI1 := hide hi1
  have HIZ := hide hiz
  have HIS := hide his
  have HIB := hide hib
  clear hs1 hg1 hga1 hga hbv hr hwa hw1 hB hs ht h hc htt hi1 hiz his hib
  generalize v.count = cn at *
  have HFI := hide hfi
  have HEN := hide hen
  have HM := hide hm
  have HNB := hide hn
  clear hfi hen hm hn
  go_enter Tryz.func16, Tryz.ntmps16
  go_wp2_with fail
  rw [← HW1.out]
  rw [← HWE.out]
  obtain ⟨b0, b1, b2, b3⟩ : C4 wa w.heap.size 0 (.int .i64 v.t) (.slice nA v.n.length nc) (.slice sA v.s.length sc) (.slice lA v.l.length lc) := ⟨by rw [blk_cell HBV.out]; rfl, by rw [blk_cell HBV.out]; rfl, by rw [blk_cell HBV.out]; rfl, by rw [blk_cell HBV.out]; rfl⟩
  go_wp2_with (first
    | (go_at_call 29; refine (HPT.out _).mono ?_; rintro e w2 ⟨rfl, hg2⟩; have HG2 := hide hg2; have b0 := cell_gb b0 hg2; have b1 := cell_gb b1 hg2; have b2 := cell_gb b2 hg2; have b3 := cell_gb b3 hg2; clear hg2)
    | (go_at_call 30; refine (HCN.out _ HG2.out).mono ?_; rintro e w3 ⟨rfl, hg3⟩; have HG3 := hide (gb_trans HG2.out hg3 (.inl rfl)); have b0 := cell_gb b0 hg3; have b1 := cell_gb b1 hg3; have b2 := cell_gb b2 hg3; have b3 := cell_gb b3 hg3; clear hg3))
  clear b0 b1 b2 b3
  go_loopw [6, 8] (fun u i wr => ∃ (j : Nat) (l : List Int), i = .int .i64 (j : Int) ∧ j ≤ cn ∧ Hid (l = rowI fi (mj fi en j)) ∧ IRow wa wr u l) (fun _ i _ => cn - (intOf i).toNat)
  case atStart => exact ⟨0, [], rfl, Nat.zero_le _, hide (by rw [mj_zero (by have := HFI.out; omega)]; rfl), IRow.nil_ wa _ HG3.out⟩
  case round =>
    obtain ⟨j, l, rfl, hj, HL, hir⟩ := hrel
    have HIR := hide hir
    clear hir
    by_cases hlt : j < cn
    · have hlt1 : (j : Int) < (cn : Int) := by omega
      have h6 : IntKind.i64.wrap ((j : Int) + 1) = ((j + 1 : Nat) : Int) := by rw [IntKind.wrap_i64]; have := HC.out; omega
      have h7 : IntKind.i64.wrap (-(cn : Int)) = -(cn : Int) := by rw [IntKind.wrap_i64]; have := HC.out; omega
      have HJ := hide hlt
      have HLN := hide (show l.length ≤ 65536 by rw [HL.out, rowI_length]; unfold mj; have := HC.out; have := HFI.out; omega)
      have hcn : (cn : Int) ≤ 65536 := by have := HC.out; omega
      have HIN := hide (fun (h : fi ≤ (j : Int) ∧ (j : Int) < en) => show l ++ [(j : Int)] = rowI fi (mj fi en (j + 1)) by rw [HL.out, (mj_in h).1]; show _ = rowI fi (mj fi en j) ++ [fi + (mj fi en j : Int)]; rw [(mj_in h).2])
      have HOUT := hide (fun (h : ¬ (fi ≤ (j : Int) ∧ (j : Int) < en)) => show l = rowI fi (mj fi en (j + 1)) by rw [HL.out, mj_out h])
      clear hj
      by_cases hn0 : 0 ≤ n
      · by_cases hnj : n ≤ (j : Int)
        · have HNX := hide (HIN.out (by have := HFI.out; have := HEN.out; omega))
          clear HIN HOUT hlt
          have HK7 := hide (gb_alloc (gb_refl wr none) (.cells #[.int .i64 (j : Int)] 3))
          have HOW7 := hide (HIR.out.ho.alloc (.cells #[.int .i64 (j : Int)] 3))
          have HRD7 := hide (rd_lit wr #[.int .i64 (j : Int)] 3 [.int .i64 (j : Int)] rfl)
          have HM7 : Hid (l.length + 1 ≤ maxLen) := hide (by unfold maxLen; have := HLN.out; omega)
          have HMB7 : Hid ((l.length + 1) * 8 ≤ 140737488355328) := hide (by have := HLN.out; omega)
          have HBS7 : Hid (wa.heap.size ≤ (wr.alloc (.cells #[.int .i64 (j : Int)] 3)).heap.size) := hide (by have := HIR.out.hg.size; have := HK7.out.size; omega)
          go_wp2_with (at_builtin; refine wpList_append_rd _ rfl (.tmp 44) (.tmp 46) 52 rfl wa.heap.size 3 i1 (.int .i64 0) 1 8 Tryz.underlying52 HI1.out HIZ.out HIS.out HIB.out rfl (Nat.succ_pos 0) u6 l.length (i64s l) rfl HOW7.out (wr.alloc (.cells #[.int .i64 (j : Int)] 3)).heap.size (some ⟨wr.heap.size, 0, none⟩) 1 1 [.int .i64 (j : Int)] rfl rfl HRD7.out (cell1 _ _) HM7.out HMB7.out HBS7.out ?_
                       intro v8 w8 ho8 hg8 hl8
                       have HIR8 := hide (HIR.out.step (j : Int) HK7.out ho8 hg8)
                       clear ho8 hg8 hl8)
          go_roundw
          case rel => exact ⟨j + 1, _, by go_num, by have := HJ.out; omega, hide HNX.out, HIR8.out⟩
          case measure => have := HJ.out; simp [intOf]; omega
        · have hnj1 : (j : Int) < n := by omega
          have HNX := hide (HOUT.out (by have := HFI.out; have := HEN.out; omega))
          clear HIN HOUT hlt hnj
          go_wp2_with fail
          go_roundw
          case rel => exact ⟨j + 1, l, by go_num, by have := HJ.out; omega, hide HNX.out, HIR.out⟩
          case measure => have := HJ.out; simp [intOf]; omega
      · have hn1 : n < 0 := by omega
        by_cases hnc : -(cn : Int) < n
        · have h8 : IntKind.i64.wrap ((cn : Int) + n) = (cn : Int) + n := by rw [IntKind.wrap_i64]; omega
          by_cases hjn : (j : Int) < (cn : Int) + n
          · have HNX := hide (HIN.out (by have := HFI.out; have := HEN.out; omega))
            clear HIN HOUT hlt hn0
            have HK7 := hide (gb_alloc (gb_refl wr none) (.cells #[.int .i64 (j : Int)] 3))
            have HOW7 := hide (HIR.out.ho.alloc (.cells #[.int .i64 (j : Int)] 3))
            have HRD7 := hide (rd_lit wr #[.int .i64 (j : Int)] 3 [.int .i64 (j : Int)] rfl)
            have HM7 : Hid (l.length + 1 ≤ maxLen) := hide (by unfold maxLen; have := HLN.out; omega)
            have HMB7 : Hid ((l.length + 1) * 8 ≤ 140737488355328) := hide (by have := HLN.out; omega)
            have HBS7 : Hid (wa.heap.size ≤ (wr.alloc (.cells #[.int .i64 (j : Int)] 3)).heap.size) := hide (by have := HIR.out.hg.size; have := HK7.out.size; omega)
            go_wp2_with (at_builtin; refine wpList_append_rd _ rfl (.tmp 44) (.tmp 46) 52 rfl wa.heap.size 3 i1 (.int .i64 0) 1 8 Tryz.underlying52 HI1.out HIZ.out HIS.out HIB.out rfl (Nat.succ_pos 0) u6 l.length (i64s l) rfl HOW7.out (wr.alloc (.cells #[.int .i64 (j : Int)] 3)).heap.size (some ⟨wr.heap.size, 0, none⟩) 1 1 [.int .i64 (j : Int)] rfl rfl HRD7.out (cell1 _ _) HM7.out HMB7.out HBS7.out ?_
                         intro v8 w8 ho8 hg8 hl8
                         have HIR8 := hide (HIR.out.step (j : Int) HK7.out ho8 hg8)
                         clear ho8 hg8 hl8)
            go_roundw
            case rel => exact ⟨j + 1, _, by go_num, by have := HJ.out; omega, hide HNX.out, HIR8.out⟩
            case measure => have := HJ.out; simp [intOf]; omega
          · have hjn1 : (cn : Int) + n ≤ (j : Int) := by omega
            have HNX := hide (HOUT.out (by have := HFI.out; have := HEN.out; omega))
            clear HIN HOUT hlt hn0 hjn
            go_wp2_with fail
            go_roundw
            case rel => exact ⟨j + 1, l, by go_num, by have := HJ.out; omega, hide HNX.out, HIR.out⟩
            case measure => have := HJ.out; simp [intOf]; omega
        · have hnc1 : n ≤ -(cn : Int) := by omega
          have HNX := hide (HOUT.out (by have := HFI.out; have := HEN.out; omega))
          clear HIN HOUT hlt hn0 hnc
          go_wp2_with fail
          go_roundw
          case rel => exact ⟨j + 1, l, by go_num, by have := HJ.out; omega, hide HNX.out, HIR.out⟩
          case measure => have := HJ.out; simp [intOf]; omega
    · have hlt1 : ¬ (j : Int) < (cn : Int) := by omega
      obtain rfl : j = cn := by omega
      have HLM := hide (show l = rowI fi m by rw [HL.out]; congr 1; unfold mj; have := HFI.out; have := HEN.out; have := HM.out; omega)
      have HLN := hide (show l.length ≤ 65536 by rw [HLM.out, rowI_length]; have := HFI.out; have := HEN.out; have := HM.out; have := HC.out; omega)
      have HTL := hide (show v.t = 0 → Vl.tots (l.map (pickV v.l emp)) ≤ 1200000000 from fun e => by rw [HLM.out]; exact HTT.out e)
      have HGOAL := hide (show idxV v (rowI fi m) = idxV v l by rw [HLM.out])
      clear hlt hj
      obtain ⟨pA, pc, rfl, _⟩ := own_slice HIR.out.ho
      have HRD := hide (Rd.of_own HIR.out.ho)
      have hgr := HIR.out.hg
      have HGR := hide hgr
      obtain ⟨b0, b1, b2, b3⟩ : C4 wr w.heap.size 0 (.int .i64 v.t) (.slice nA v.n.length nc) (.slice sA v.s.length sc) (.slice lA v.l.length lc) := by have hb := blk_keep HBV.out hgr (by simp); exact ⟨by rw [blk_cell hb]; rfl, by rw [blk_cell hb]; rfl, by rw [blk_cell hb]; rfl, by rw [blk_cell hb]; rfl⟩
      clear hgr
      go_wp2_with (go_at_call 31; refine (HPK.out l pA pc _ HGR.out HRD.out (by have := HLN.out; omega) HTL.out).mono ?_; rintro e w9 ⟨xA, xc, yA, yc, zA, zc, f9, rfl, ho, hn, hg9⟩; have hrr := (hg9.block _ (by have := HGR.out.size; have := HS1.out; omega) (by simp)).trans (blk_keep HR.out HGR.out (by simp)); have HR3 := hide hrr; have z0 := blk_frozen hrr 0; have z1 := blk_frozen hrr 1; have z2 := blk_frozen hrr 2; have z3 := blk_frozen hrr 3; have p0 : w9.cell? ⟨w.heap.size + 1, 0, none⟩ = some (.int .i64 0) := (by { rw [blk_cell hrr]; rfl }); have p1 : w9.cell? ⟨w.heap.size + 1, 1, none⟩ = some (.slice none 0 0) := (by { rw [blk_cell hrr]; rfl }); have p2 : w9.cell? ⟨w.heap.size + 1, 2, none⟩ = some (.slice none 0 0) := (by { rw [blk_cell hrr]; rfl }); have p3 : w9.cell? ⟨w.heap.size + 1, 3, none⟩ = some (.slice none 0 0) := (by { rw [blk_cell hrr]; rfl }); have HF := hide (NewE.fin (x := idxV v l) ho hn (gb_trans HGA.out HGR.out (.inl rfl)) hg9 (Nat.le_succ w.heap.size) (by have := HGR.out.size; have := HS1.out; omega)); clear ho hn hg9 hrr)
      generalize idxV v l = ov at *
      obtain ⟨m0, m1, m2, m3⟩ := C4.put HR3.out (.int .i64 ov.t) (.slice xA ov.n.length xc) (.slice yA ov.s.length yc) (.slice zA ov.l.length zc)
      simp only [put4, Nat.zero_add] at m0 m1 m2 m3
      refine bodyPost_ret (v := .tuple #[.agg #[.int .i64 ov.t, .slice xA ov.n.length xc, .slice yA ov.s.length yc, .slice zA ov.l.length zc], .int .i64 0]) (by simp [results, Tryz.results16, go_sem, m0, m1, m2, m3]) rfl ?_
      rw [HGOAL.out]
      exact HF.out
set_option maxHeartbeats 4000000 in
set_option maxRecDepth 100000 in
theorem rReverse_31 (t : Int) (hs : ¬ seqT t) (c1 c2 c3 : Value) (w : World) : Calls Tryz.prog 10 #[.agg #[.int .i64 t, c1, c2, c3]] w (ErrV 31 w) := by
  obtain ⟨w1, hw1⟩ : ∃ w1, w1 = w.alloc (.cells #[.int .i64 t, c1, c2, c3] 26) := ⟨_, rfl⟩
  obtain ⟨wa, hwa⟩ : ∃ wa, wa = w1.alloc (.cells #[.int .i64 0, .slice none 0 0, .slice none 0 0, .slice none 0 0] 26) := ⟨_, rfl⟩
  have hs1 : w1.heap.size = w.heap.size + 1 := by rw [hw1]; simp
  have hg1 : w.grownBy w1 none := by rw [hw1]; exact gb_alloc (gb_refl w none) _
  have hga1 : w1.grownBy wa none := by rw [hwa]; exact gb_alloc (gb_refl w1 none) _
  have hga := gb_trans hg1 hga1 (.inl rfl)
  have hbv : wa.heap[w.heap.size]? = some (.cells #[.int .i64 t, c1, c2, c3] 26 (0, 0)) := (hga1.block _ (by omega) (by simp)).trans (by rw [hw1]; exact heap_alloc_new w _)
  have hr : wa.heap[w.heap.size + 1]? = some (.cells #[.int .i64 0, .slice none 0 0, .slice none 0 0, .slice none 0 0] 26 (0, 0)) := by rw [← hs1, hwa]; exact heap_alloc_new w1 _
  have HGA := hide hga
  have HR := hide hr
  have HWE := hide hwa
  have HW1 := hide hw1
  have HPT := hide (fun w2 => part_no t hs c1 c2 c3 w2)
  obtain ⟨b0, b1, b2, b3⟩ : C4 wa w.heap.size 0 (.int .i64 t) c1 c2 c3 := ⟨by rw [blk_cell hbv]; rfl, by rw [blk_cell hbv]; rfl, by rw [blk_cell hbv]; rfl, by rw [blk_cell hbv]; rfl⟩
  clear hs1 hg1 hga1 hga hbv hr hwa hw1 hs
  go_enter Tryz.func10, Tryz.ntmps10
  go_wp2_with fail
  rw [← HW1.out]
  rw [← HWE.out]
  go_wp2_with (go_at_call 29; refine (HPT.out _).mono ?_; rintro e w9 ⟨rfl, hg9⟩; have hrr := (hg9.block _ (blk_lt HR.out) (by simp)).trans HR.out; have HR3 := hide hrr; have HG9 := hide hg9; have z0 := blk_frozen hrr 0; have z1 := blk_frozen hrr 1; have z2 := blk_frozen hrr 2; have z3 := blk_frozen hrr 3; have p0 : w9.cell? ⟨w.heap.size + 1, 0, none⟩ = some (.int .i64 0) := (by { rw [blk_cell hrr]; rfl }); have p1 : w9.cell? ⟨w.heap.size + 1, 1, none⟩ = some (.slice none 0 0) := (by { rw [blk_cell hrr]; rfl }); have p2 : w9.cell? ⟨w.heap.size + 1, 2, none⟩ = some (.slice none 0 0) := (by { rw [blk_cell hrr]; rfl }); have p3 : w9.cell? ⟨w.heap.size + 1, 3, none⟩ = some (.slice none 0 0) := (by { rw [blk_cell hrr]; rfl }); clear hg9 hrr)
  obtain ⟨m0, m1, m2, m3⟩ := C4.put HR3.out (.int .i64 0) (.slice none 0 0) (.slice none 0 0) (.slice none 0 0)
  simp only [put4, Nat.zero_add] at m0 m1 m2 m3
  refine bodyPost_ret (v := .tuple #[.agg #[.int .i64 0, .slice none 0 0, .slice none 0 0, .slice none 0 0], .int .i64 31]) (by simp [results, Tryz.results10, go_sem, m0, m1, m2, m3]) rfl ⟨rfl, ?_⟩
  exact put4_to (gb_trans HGA.out HG9.out (.inl rfl)) (by omega)
set_option maxHeartbeats 4000000 in
set_option maxRecDepth 100000 in
theorem rTake_31 (n : Int) (t : Int) (hs : ¬ seqT t) (c1 c2 c3 : Value) (w : World) : Calls Tryz.prog 14 #[.int .i64 n, .agg #[.int .i64 t, c1, c2, c3]] w (ErrV 31 w) := by
  obtain ⟨w1, hw1⟩ : ∃ w1, w1 = w.alloc (.cells #[.int .i64 t, c1, c2, c3] 26) := ⟨_, rfl⟩
  obtain ⟨wa, hwa⟩ : ∃ wa, wa = w1.alloc (.cells #[.int .i64 0, .slice none 0 0, .slice none 0 0, .slice none 0 0] 26) := ⟨_, rfl⟩
  have hs1 : w1.heap.size = w.heap.size + 1 := by rw [hw1]; simp
  have hg1 : w.grownBy w1 none := by rw [hw1]; exact gb_alloc (gb_refl w none) _
  have hga1 : w1.grownBy wa none := by rw [hwa]; exact gb_alloc (gb_refl w1 none) _
  have hga := gb_trans hg1 hga1 (.inl rfl)
  have hbv : wa.heap[w.heap.size]? = some (.cells #[.int .i64 t, c1, c2, c3] 26 (0, 0)) := (hga1.block _ (by omega) (by simp)).trans (by rw [hw1]; exact heap_alloc_new w _)
  have hr : wa.heap[w.heap.size + 1]? = some (.cells #[.int .i64 0, .slice none 0 0, .slice none 0 0, .slice none 0 0] 26 (0, 0)) := by rw [← hs1, hwa]; exact heap_alloc_new w1 _
  have HGA := hide hga
  have HR := hide hr
  have HWE := hide hwa
  have HW1 := hide hw1
  have HPT := hide (fun w2 => part_no t hs c1 c2 c3 w2)
  obtain ⟨b0, b1, b2, b3⟩ : C4 wa w.heap.size 0 (.int .i64 t) c1 c2 c3 := ⟨by rw [blk_cell hbv]; rfl, by rw [blk_cell hbv]; rfl, by rw [blk_cell hbv]; rfl, by rw [blk_cell hbv]; rfl⟩
  clear hs1 hg1 hga1 hga hbv hr hwa hw1 hs
  go_enter Tryz.func14, Tryz.ntmps14
  go_wp2_with fail
  rw [← HW1.out]
  rw [← HWE.out]
  go_wp2_with (go_at_call 29; refine (HPT.out _).mono ?_; rintro e w9 ⟨rfl, hg9⟩; have hrr := (hg9.block _ (blk_lt HR.out) (by simp)).trans HR.out; have HR3 := hide hrr; have HG9 := hide hg9; have z0 := blk_frozen hrr 0; have z1 := blk_frozen hrr 1; have z2 := blk_frozen hrr 2; have z3 := blk_frozen hrr 3; have p0 : w9.cell? ⟨w.heap.size + 1, 0, none⟩ = some (.int .i64 0) := (by { rw [blk_cell hrr]; rfl }); have p1 : w9.cell? ⟨w.heap.size + 1, 1, none⟩ = some (.slice none 0 0) := (by { rw [blk_cell hrr]; rfl }); have p2 : w9.cell? ⟨w.heap.size + 1, 2, none⟩ = some (.slice none 0 0) := (by { rw [blk_cell hrr]; rfl }); have p3 : w9.cell? ⟨w.heap.size + 1, 3, none⟩ = some (.slice none 0 0) := (by { rw [blk_cell hrr]; rfl }); clear hg9 hrr)
  obtain ⟨m0, m1, m2, m3⟩ := C4.put HR3.out (.int .i64 0) (.slice none 0 0) (.slice none 0 0) (.slice none 0 0)
  simp only [put4, Nat.zero_add] at m0 m1 m2 m3
  refine bodyPost_ret (v := .tuple #[.agg #[.int .i64 0, .slice none 0 0, .slice none 0 0, .slice none 0 0], .int .i64 31]) (by simp [results, Tryz.results14, go_sem, m0, m1, m2, m3]) rfl ⟨rfl, ?_⟩
  exact put4_to (gb_trans HGA.out HG9.out (.inl rfl)) (by omega)
set_option maxHeartbeats 4000000 in
set_option maxRecDepth 100000 in
theorem rDrop_31 (n : Int) (t : Int) (hs : ¬ seqT t) (c1 c2 c3 : Value) (w : World) : Calls Tryz.prog 16 #[.int .i64 n, .agg #[.int .i64 t, c1, c2, c3]] w (ErrV 31 w) := by
  obtain ⟨w1, hw1⟩ : ∃ w1, w1 = w.alloc (.cells #[.int .i64 t, c1, c2, c3] 26) := ⟨_, rfl⟩
  obtain ⟨wa, hwa⟩ : ∃ wa, wa = w1.alloc (.cells #[.int .i64 0, .slice none 0 0, .slice none 0 0, .slice none 0 0] 26) := ⟨_, rfl⟩
  have hs1 : w1.heap.size = w.heap.size + 1 := by rw [hw1]; simp
  have hg1 : w.grownBy w1 none := by rw [hw1]; exact gb_alloc (gb_refl w none) _
  have hga1 : w1.grownBy wa none := by rw [hwa]; exact gb_alloc (gb_refl w1 none) _
  have hga := gb_trans hg1 hga1 (.inl rfl)
  have hbv : wa.heap[w.heap.size]? = some (.cells #[.int .i64 t, c1, c2, c3] 26 (0, 0)) := (hga1.block _ (by omega) (by simp)).trans (by rw [hw1]; exact heap_alloc_new w _)
  have hr : wa.heap[w.heap.size + 1]? = some (.cells #[.int .i64 0, .slice none 0 0, .slice none 0 0, .slice none 0 0] 26 (0, 0)) := by rw [← hs1, hwa]; exact heap_alloc_new w1 _
  have HGA := hide hga
  have HR := hide hr
  have HWE := hide hwa
  have HW1 := hide hw1
  have HPT := hide (fun w2 => part_no t hs c1 c2 c3 w2)
  obtain ⟨b0, b1, b2, b3⟩ : C4 wa w.heap.size 0 (.int .i64 t) c1 c2 c3 := ⟨by rw [blk_cell hbv]; rfl, by rw [blk_cell hbv]; rfl, by rw [blk_cell hbv]; rfl, by rw [blk_cell hbv]; rfl⟩
  clear hs1 hg1 hga1 hga hbv hr hwa hw1 hs
  go_enter Tryz.func16, Tryz.ntmps16
  go_wp2_with fail
  rw [← HW1.out]
  rw [← HWE.out]
  go_wp2_with (go_at_call 29; refine (HPT.out _).mono ?_; rintro e w9 ⟨rfl, hg9⟩; have hrr := (hg9.block _ (blk_lt HR.out) (by simp)).trans HR.out; have HR3 := hide hrr; have HG9 := hide hg9; have z0 := blk_frozen hrr 0; have z1 := blk_frozen hrr 1; have z2 := blk_frozen hrr 2; have z3 := blk_frozen hrr 3; have p0 : w9.cell? ⟨w.heap.size + 1, 0, none⟩ = some (.int .i64 0) := (by { rw [blk_cell hrr]; rfl }); have p1 : w9.cell? ⟨w.heap.size + 1, 1, none⟩ = some (.slice none 0 0) := (by { rw [blk_cell hrr]; rfl }); have p2 : w9.cell? ⟨w.heap.size + 1, 2, none⟩ = some (.slice none 0 0) := (by { rw [blk_cell hrr]; rfl }); have p3 : w9.cell? ⟨w.heap.size + 1, 3, none⟩ = some (.slice none 0 0) := (by { rw [blk_cell hrr]; rfl }); clear hg9 hrr)
  obtain ⟨m0, m1, m2, m3⟩ := C4.put HR3.out (.int .i64 0) (.slice none 0 0) (.slice none 0 0) (.slice none 0 0)
  simp only [put4, Nat.zero_add] at m0 m1 m2 m3
  refine bodyPost_ret (v := .tuple #[.agg #[.int .i64 0, .slice none 0 0, .slice none 0 0, .slice none 0 0], .int .i64 31]) (by simp [results, Tryz.results16, go_sem, m0, m1, m2, m3]) rfl ⟨rfl, ?_⟩
  exact put4_to (gb_trans HGA.out HG9.out (.inl rfl)) (by omega)
set_option maxHeartbeats 4000000 in
set_option maxRecDepth 100000 in
theorem rIndex_31 (qs : Value) (t : Int) (hs : ¬ seqT t) (c1 c2 c3 : Value) (w : World) : Calls Tryz.prog 18 #[.agg #[.int .i64 t, c1, c2, c3], qs] w (ErrV 31 w) := by
  obtain ⟨w1, hw1⟩ : ∃ w1, w1 = w.alloc (.cells #[.int .i64 t, c1, c2, c3] 26) := ⟨_, rfl⟩
  obtain ⟨wa, hwa⟩ : ∃ wa, wa = w1.alloc (.cells #[.int .i64 0, .slice none 0 0, .slice none 0 0, .slice none 0 0] 26) := ⟨_, rfl⟩
  have hs1 : w1.heap.size = w.heap.size + 1 := by rw [hw1]; simp
  have hg1 : w.grownBy w1 none := by rw [hw1]; exact gb_alloc (gb_refl w none) _
  have hga1 : w1.grownBy wa none := by rw [hwa]; exact gb_alloc (gb_refl w1 none) _
  have hga := gb_trans hg1 hga1 (.inl rfl)
  have hbv : wa.heap[w.heap.size]? = some (.cells #[.int .i64 t, c1, c2, c3] 26 (0, 0)) := (hga1.block _ (by omega) (by simp)).trans (by rw [hw1]; exact heap_alloc_new w _)
  have hr : wa.heap[w.heap.size + 1]? = some (.cells #[.int .i64 0, .slice none 0 0, .slice none 0 0, .slice none 0 0] 26 (0, 0)) := by rw [← hs1, hwa]; exact heap_alloc_new w1 _
  have HGA := hide hga
  have HR := hide hr
  have HWE := hide hwa
  have HW1 := hide hw1
  have HPT := hide (fun w2 => part_no t hs c1 c2 c3 w2)
  obtain ⟨b0, b1, b2, b3⟩ : C4 wa w.heap.size 0 (.int .i64 t) c1 c2 c3 := ⟨by rw [blk_cell hbv]; rfl, by rw [blk_cell hbv]; rfl, by rw [blk_cell hbv]; rfl, by rw [blk_cell hbv]; rfl⟩
  clear hs1 hg1 hga1 hga hbv hr hwa hw1 hs
  go_enter Tryz.func18, Tryz.ntmps18
  go_wp2_with fail
  rw [← HW1.out]
  rw [← HWE.out]
  go_wp2_with (go_at_call 29; refine (HPT.out _).mono ?_; rintro e w9 ⟨rfl, hg9⟩; have hrr := (hg9.block _ (blk_lt HR.out) (by simp)).trans HR.out; have HR3 := hide hrr; have HG9 := hide hg9; have z0 := blk_frozen hrr 0; have z1 := blk_frozen hrr 1; have z2 := blk_frozen hrr 2; have z3 := blk_frozen hrr 3; have p0 : w9.cell? ⟨w.heap.size + 1, 0, none⟩ = some (.int .i64 0) := (by { rw [blk_cell hrr]; rfl }); have p1 : w9.cell? ⟨w.heap.size + 1, 1, none⟩ = some (.slice none 0 0) := (by { rw [blk_cell hrr]; rfl }); have p2 : w9.cell? ⟨w.heap.size + 1, 2, none⟩ = some (.slice none 0 0) := (by { rw [blk_cell hrr]; rfl }); have p3 : w9.cell? ⟨w.heap.size + 1, 3, none⟩ = some (.slice none 0 0) := (by { rw [blk_cell hrr]; rfl }); clear hg9 hrr)
  obtain ⟨m0, m1, m2, m3⟩ := C4.put HR3.out (.int .i64 0) (.slice none 0 0) (.slice none 0 0) (.slice none 0 0)
  simp only [put4, Nat.zero_add] at m0 m1 m2 m3
  refine bodyPost_ret (v := .tuple #[.agg #[.int .i64 0, .slice none 0 0, .slice none 0 0, .slice none 0 0], .int .i64 31]) (by simp [results, Tryz.results18, go_sem, m0, m1, m2, m3]) rfl ⟨rfl, ?_⟩
  exact put4_to (gb_trans HGA.out HG9.out (.inl rfl)) (by omega)
set_option maxHeartbeats 4000000 in
set_option maxRecDepth 100000 in
theorem rTake_over (n : Int) (t : Int) (hs : seqT t ∧ 65536 < n) (c1 c2 c3 : Value) (w : World) : Calls Tryz.prog 14 #[.int .i64 n, .agg #[.int .i64 t, c1, c2, c3]] w (ErrV 6 w) := by
  obtain ⟨w1, hw1⟩ : ∃ w1, w1 = w.alloc (.cells #[.int .i64 t, c1, c2, c3] 26) := ⟨_, rfl⟩
  obtain ⟨wa, hwa⟩ : ∃ wa, wa = w1.alloc (.cells #[.int .i64 0, .slice none 0 0, .slice none 0 0, .slice none 0 0] 26) := ⟨_, rfl⟩
  have hs1 : w1.heap.size = w.heap.size + 1 := by rw [hw1]; simp
  have hg1 : w.grownBy w1 none := by rw [hw1]; exact gb_alloc (gb_refl w none) _
  have hga1 : w1.grownBy wa none := by rw [hwa]; exact gb_alloc (gb_refl w1 none) _
  have hga := gb_trans hg1 hga1 (.inl rfl)
  have hbv : wa.heap[w.heap.size]? = some (.cells #[.int .i64 t, c1, c2, c3] 26 (0, 0)) := (hga1.block _ (by omega) (by simp)).trans (by rw [hw1]; exact heap_alloc_new w _)
  have hr : wa.heap[w.heap.size + 1]? = some (.cells #[.int .i64 0, .slice none 0 0, .slice none 0 0, .slice none 0 0] 26 (0, 0)) := by rw [← hs1, hwa]; exact heap_alloc_new w1 _
  have HGA := hide hga
  have HR := hide hr
  have HWE := hide hwa
  have HW1 := hide hw1
  have HPT := hide (fun w2 => part_yes t hs.1 c1 c2 c3 w2)
  obtain ⟨b0, b1, b2, b3⟩ : C4 wa w.heap.size 0 (.int .i64 t) c1 c2 c3 := ⟨by rw [blk_cell hbv]; rfl, by rw [blk_cell hbv]; rfl, by rw [blk_cell hbv]; rfl, by rw [blk_cell hbv]; rfl⟩
  have hb1 : 65536 < n := hs.2
  clear hs1 hg1 hga1 hga hbv hr hwa hw1 hs
  go_enter Tryz.func14, Tryz.ntmps14
  go_wp2_with fail
  rw [← HW1.out]
  rw [← HWE.out]
  go_wp2_with (go_at_call 29; refine (HPT.out _).mono ?_; rintro e w9 ⟨rfl, hg9⟩; have hrr := (hg9.block _ (blk_lt HR.out) (by simp)).trans HR.out; have HR3 := hide hrr; have HG9 := hide hg9; have z0 := blk_frozen hrr 0; have z1 := blk_frozen hrr 1; have z2 := blk_frozen hrr 2; have z3 := blk_frozen hrr 3; have p0 : w9.cell? ⟨w.heap.size + 1, 0, none⟩ = some (.int .i64 0) := (by { rw [blk_cell hrr]; rfl }); have p1 : w9.cell? ⟨w.heap.size + 1, 1, none⟩ = some (.slice none 0 0) := (by { rw [blk_cell hrr]; rfl }); have p2 : w9.cell? ⟨w.heap.size + 1, 2, none⟩ = some (.slice none 0 0) := (by { rw [blk_cell hrr]; rfl }); have p3 : w9.cell? ⟨w.heap.size + 1, 3, none⟩ = some (.slice none 0 0) := (by { rw [blk_cell hrr]; rfl }); clear hg9 hrr)
  obtain ⟨m0, m1, m2, m3⟩ := C4.put HR3.out (.int .i64 0) (.slice none 0 0) (.slice none 0 0) (.slice none 0 0)
  simp only [put4, Nat.zero_add] at m0 m1 m2 m3
  refine bodyPost_ret (v := .tuple #[.agg #[.int .i64 0, .slice none 0 0, .slice none 0 0, .slice none 0 0], .int .i64 6]) (by simp [results, Tryz.results14, go_sem, m0, m1, m2, m3]) rfl ⟨rfl, ?_⟩
  exact put4_to (gb_trans HGA.out HG9.out (.inl rfl)) (by omega)
set_option maxHeartbeats 4000000 in
set_option maxRecDepth 100000 in
theorem rTake_under (n : Int) (t : Int) (hs : seqT t ∧ n < -65536) (c1 c2 c3 : Value) (w : World) : Calls Tryz.prog 14 #[.int .i64 n, .agg #[.int .i64 t, c1, c2, c3]] w (ErrV 6 w) := by
  obtain ⟨w1, hw1⟩ : ∃ w1, w1 = w.alloc (.cells #[.int .i64 t, c1, c2, c3] 26) := ⟨_, rfl⟩
  obtain ⟨wa, hwa⟩ : ∃ wa, wa = w1.alloc (.cells #[.int .i64 0, .slice none 0 0, .slice none 0 0, .slice none 0 0] 26) := ⟨_, rfl⟩
  have hs1 : w1.heap.size = w.heap.size + 1 := by rw [hw1]; simp
  have hg1 : w.grownBy w1 none := by rw [hw1]; exact gb_alloc (gb_refl w none) _
  have hga1 : w1.grownBy wa none := by rw [hwa]; exact gb_alloc (gb_refl w1 none) _
  have hga := gb_trans hg1 hga1 (.inl rfl)
  have hbv : wa.heap[w.heap.size]? = some (.cells #[.int .i64 t, c1, c2, c3] 26 (0, 0)) := (hga1.block _ (by omega) (by simp)).trans (by rw [hw1]; exact heap_alloc_new w _)
  have hr : wa.heap[w.heap.size + 1]? = some (.cells #[.int .i64 0, .slice none 0 0, .slice none 0 0, .slice none 0 0] 26 (0, 0)) := by rw [← hs1, hwa]; exact heap_alloc_new w1 _
  have HGA := hide hga
  have HR := hide hr
  have HWE := hide hwa
  have HW1 := hide hw1
  have HPT := hide (fun w2 => part_yes t hs.1 c1 c2 c3 w2)
  obtain ⟨b0, b1, b2, b3⟩ : C4 wa w.heap.size 0 (.int .i64 t) c1 c2 c3 := ⟨by rw [blk_cell hbv]; rfl, by rw [blk_cell hbv]; rfl, by rw [blk_cell hbv]; rfl, by rw [blk_cell hbv]; rfl⟩
  have hb1 : n < -65536 := hs.2
  have hb2 : ¬ 65536 < n := by omega
  clear hs1 hg1 hga1 hga hbv hr hwa hw1 hs
  go_enter Tryz.func14, Tryz.ntmps14
  go_wp2_with fail
  rw [← HW1.out]
  rw [← HWE.out]
  go_wp2_with (go_at_call 29; refine (HPT.out _).mono ?_; rintro e w9 ⟨rfl, hg9⟩; have hrr := (hg9.block _ (blk_lt HR.out) (by simp)).trans HR.out; have HR3 := hide hrr; have HG9 := hide hg9; have z0 := blk_frozen hrr 0; have z1 := blk_frozen hrr 1; have z2 := blk_frozen hrr 2; have z3 := blk_frozen hrr 3; have p0 : w9.cell? ⟨w.heap.size + 1, 0, none⟩ = some (.int .i64 0) := (by { rw [blk_cell hrr]; rfl }); have p1 : w9.cell? ⟨w.heap.size + 1, 1, none⟩ = some (.slice none 0 0) := (by { rw [blk_cell hrr]; rfl }); have p2 : w9.cell? ⟨w.heap.size + 1, 2, none⟩ = some (.slice none 0 0) := (by { rw [blk_cell hrr]; rfl }); have p3 : w9.cell? ⟨w.heap.size + 1, 3, none⟩ = some (.slice none 0 0) := (by { rw [blk_cell hrr]; rfl }); clear hg9 hrr)
  obtain ⟨m0, m1, m2, m3⟩ := C4.put HR3.out (.int .i64 0) (.slice none 0 0) (.slice none 0 0) (.slice none 0 0)
  simp only [put4, Nat.zero_add] at m0 m1 m2 m3
  refine bodyPost_ret (v := .tuple #[.agg #[.int .i64 0, .slice none 0 0, .slice none 0 0, .slice none 0 0], .int .i64 6]) (by simp [results, Tryz.results14, go_sem, m0, m1, m2, m3]) rfl ⟨rfl, ?_⟩
  exact put4_to (gb_trans HGA.out HG9.out (.inl rfl)) (by omega)
end Go.Proofs.YtkbflmaflokpdaaGreat
