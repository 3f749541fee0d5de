/-
  The document's kind, flat and part of any value.
-/
import Derived.Test.YtkbflmaflokpdaaGreatQJt
import Derived.Test.YtkbflmaflokpdaaGreatQJj
import Derived.Deep.RegionLaw
import Derived.Deep.CutBlock
import Derived.Deep.DeepCutAuto
import Derived.Deep.QuietTactic
import Derived.BigQuiet
import Derived.Test.YtkbflmaflokpdaaGreatQJp

namespace Go.Proofs.YtkbflmaflokpdaaGreat
open Go.RowKit
attribute [local go_sem ↓] Go.wp_at_zero Go.wp_at_succ

end Go.Proofs.YtkbflmaflokpdaaGreat

namespace Go.Proofs.YtkbflmaflokpdaaGreat
open Go.RowKit
attribute [local go_sem ↓] Go.wp_at_zero Go.wp_at_succ

theorem rVec_seq {t : Int} (h : seqT t) (h0 : t ≠ 0) : rVec t = true := by
  unfold rVec
  rw [Bool.and_eq_true, decide_eq_true_eq, decide_eq_true_eq]
  rcases h with (h | h | h | h) | h | h <;> omega
theorem rVec_not {t : Int} (h : ¬ seqT t) : rVec t = false ∧ t ≠ 0 := by
  have h1 : ¬ (1 ≤ t ∧ t ≤ 5) := fun h1 => h (by unfold seqT numT; omega)
  refine ⟨?_, fun e => h (.inr (.inr e))⟩
  unfold rVec
  by_cases h2 : 1 ≤ t
  · rw [decide_eq_true h2, decide_eq_false (by omega)]; rfl
  · rw [decide_eq_false h2]; rfl
set_option maxHeartbeats 4000000 in
set_option maxRecDepth 100000 in
theorem part_vec (t : Int) (hs : seqT t ∧ t ≠ 0) (c1 c2 c3 : Value) (w : World) : Calls Tryz.prog 29 #[.agg #[.int .i64 t, c1, c2, c3]] w fun e w' => e = .returned (.bool true) ∧ w.grownBy w' none := by
  obtain ⟨wa, hwa⟩ : ∃ wa, wa = w.alloc (.cells #[.int .i64 t, c1, c2, c3] 26) := ⟨_, rfl⟩
  have hg : w.grownBy wa none := by rw [hwa]; exact gb_alloc (gb_refl w none) _
  have hb : wa.heap[w.heap.size]? = some (.cells #[.int .i64 t, c1, c2, c3] 26 (0, 0)) := by rw [hwa]; exact heap_alloc_new w _
  obtain ⟨b0, b1, b2, b3⟩ : C4 wa w.heap.size 0 (.int .i64 t) c1 c2 c3 := ⟨by rw [blk_cell hb]; rfl, by rw [blk_cell hb]; rfl, by rw [blk_cell hb]; rfl, by rw [blk_cell hb]; rfl⟩
  have HG := hide hg
  have HWE := hide hwa
  have HVE := hide (fun w2 => rVec_any t c1 c2 c3 w2)
  rw [rVec_seq hs.1 hs.2] at HVE
  clear hg hwa hb hs
  go_enter Tryz.func29, Tryz.ntmps29
  go_wp2_with fail
  rw [← HWE.out]
  go_wp2_with (go_at_call 60; refine (HVE.out _).mono ?_; rintro e w2 ⟨rfl, hg2⟩; have HG2 := hide (gb_trans HG.out hg2 (.inl rfl)); have b0 := cell_gb b0 hg2; clear hg2)
  go_ret
  exact ⟨rfl, HG2.out⟩
set_option maxHeartbeats 4000000 in
set_option maxRecDepth 100000 in
theorem part_lst (t : Int) (hs : t = 0) (c1 c2 c3 : Value) (w : World) : Calls Tryz.prog 29 #[.agg #[.int .i64 t, c1, c2, c3]] w fun e w' => e = .returned (.bool true) ∧ w.grownBy w' none := by
  obtain ⟨wa, hwa⟩ : ∃ wa, wa = w.alloc (.cells #[.int .i64 t, c1, c2, c3] 26) := ⟨_, rfl⟩
  have hg : w.grownBy wa none := by rw [hwa]; exact gb_alloc (gb_refl w none) _
  have hb : wa.heap[w.heap.size]? = some (.cells #[.int .i64 t, c1, c2, c3] 26 (0, 0)) := by rw [hwa]; exact heap_alloc_new w _
  obtain ⟨b0, b1, b2, b3⟩ : C4 wa w.heap.size 0 (.int .i64 t) c1 c2 c3 := ⟨by rw [blk_cell hb]; rfl, by rw [blk_cell hb]; rfl, by rw [blk_cell hb]; rfl, by rw [blk_cell hb]; rfl⟩
  have HG := hide hg
  have HWE := hide hwa
  have HVE := hide (fun w2 => rVec_any t c1 c2 c3 w2)
  have e0 : (t == 0) = true := int_beq_t hs
  rw [show rVec t = false by rw [hs]; rfl] at HVE
  clear hg hwa hb hs
  go_enter Tryz.func29, Tryz.ntmps29
  go_wp2_with fail
  rw [← HWE.out]
  go_wp2_with (go_at_call 60; refine (HVE.out _).mono ?_; rintro e w2 ⟨rfl, hg2⟩; have HG2 := hide (gb_trans HG.out hg2 (.inl rfl)); have b0 := cell_gb b0 hg2; clear hg2)
  go_ret
  exact ⟨rfl, HG2.out⟩
set_option maxHeartbeats 4000000 in
set_option maxRecDepth 100000 in
theorem part_no (t : Int) (hs : ¬ seqT t) (c1 c2 c3 : Value) (w : World) : Calls Tryz.prog 29 #[.agg #[.int .i64 t, c1, c2, c3]] w fun e w' => e = .returned (.bool false) ∧ w.grownBy w' none := by
  obtain ⟨wa, hwa⟩ : ∃ wa, wa = w.alloc (.cells #[.int .i64 t, c1, c2, c3] 26) := ⟨_, rfl⟩
  have hg : w.grownBy wa none := by rw [hwa]; exact gb_alloc (gb_refl w none) _
  have hb : wa.heap[w.heap.size]? = some (.cells #[.int .i64 t, c1, c2, c3] 26 (0, 0)) := by rw [hwa]; exact heap_alloc_new w _
  obtain ⟨b0, b1, b2, b3⟩ : C4 wa w.heap.size 0 (.int .i64 t) c1 c2 c3 := ⟨by rw [blk_cell hb]; rfl, by rw [blk_cell hb]; rfl, by rw [blk_cell hb]; rfl, by rw [blk_cell hb]; rfl⟩
  have HG := hide hg
  have HWE := hide hwa
  have HVE := hide (fun w2 => rVec_any t c1 c2 c3 w2)
  have e0 : (t == 0) = false := int_beq_f (rVec_not hs).2
  rw [(rVec_not hs).1] at HVE
  clear hg hwa hb hs
  go_enter Tryz.func29, Tryz.ntmps29
  go_wp2_with fail
  rw [← HWE.out]
  go_wp2_with (go_at_call 60; refine (HVE.out _).mono ?_; rintro e w2 ⟨rfl, hg2⟩; have HG2 := hide (gb_trans HG.out hg2 (.inl rfl)); have b0 := cell_gb b0 hg2; clear hg2)
  go_ret
  exact ⟨rfl, HG2.out⟩
theorem part_yes (t : Int) (hs : seqT t) (c1 c2 c3 : Value) (w : World) : Calls Tryz.prog 29 #[.agg #[.int .i64 t, c1, c2, c3]] w fun e w' => e = .returned (.bool true) ∧ w.grownBy w' none := by
  by_cases h : t = 0
  · exact part_lst t h c1 c2 c3 w
  · exact part_vec t ⟨hs, h⟩ c1 c2 c3 w

/-- Places in the making, in a row of their own. -/
structure IRow (wa wr : World) (u : Value) (l : List Int) : Prop where
  ho : wr.ownsRow wa.heap.size 3 1 u l.length (i64s l)
  hg : wa.grownBy wr none
theorem IRow.nil_ (wa wr : World) (hg : wa.grownBy wr none) : IRow wa wr (.slice none 0 0) [] := ⟨⟨rfl, .inl ⟨rfl, rfl⟩⟩, hg⟩
theorem IRow.step {wa wr w7 w8 : World} {u v8 : Value} {l : List Int} (h : IRow wa wr u l) (p : Int) (hk : wr.grownBy w7 none) (ho8 : w8.ownsRow wa.heap.size 3 1 v8 (l.length + 1) (i64s l ++ [.int .i64 p])) (hg8 : w7.grownBy w8 u.ownBlock) : IRow wa w8 v8 (l ++ [p]) := by
  refine ⟨by rw [List.length_append, i64s_app]; exact ho8, gb_trans (gb_trans h.hg hk (.inl rfl)) hg8 (match hq : u.ownBlock with | none => .inr (.inl rfl) | some g => .inr (.inr ⟨g, rfl, (h.ho.lt g hq).1⟩))⟩
theorem IRow.gb {wa wr w7 : World} {u : Value} {l : List Int} (h : IRow wa wr u l) (hk : wr.grownBy w7 none) : IRow wa w7 u l :=
  ⟨h.ho.kept hk (by cases u.ownBlock <;> simp), gb_trans h.hg hk (.inl rfl)⟩
end Go.Proofs.YtkbflmaflokpdaaGreat

namespace Go.Proofs.YtkbflmaflokpdaaGreat
open Go.RowKit
attribute [local go_sem ↓] Go.wp_at_zero Go.wp_at_succ

end Go.Proofs.YtkbflmaflokpdaaGreat

namespace Go.Proofs.YtkbflmaflokpdaaGreat
open Go.RowKit
attribute [local go_sem ↓] Go.wp_at_zero Go.wp_at_succ

end Go.Proofs.YtkbflmaflokpdaaGreat

namespace Go.Proofs.YtkbflmaflokpdaaGreat
open Go.RowKit
attribute [local go_sem ↓] Go.wp_at_zero Go.wp_at_succ

section
attribute [-go_sem] Go.storeCells
end
end Go.Proofs.YtkbflmaflokpdaaGreat

namespace Go.Proofs.YtkbflmaflokpdaaGreat
open Go.RowKit
attribute [local go_sem ↓] Go.wp_at_zero Go.wp_at_succ

def rkd (t : Int) : Int := if t < 0 then -t else t
def rFlat (t : Int) : Bool := rAtom t || rVec t
set_option maxHeartbeats 4000000 in
set_option maxRecDepth 100000 in
theorem rKind_any (t : Int) (ht : -1000 ≤ t) (c1 c2 c3 : Value) (w : World) : Calls Tryz.prog 48 #[.agg #[.int .i64 t, c1, c2, c3]] w fun e w' => e = .returned (.int .i64 (rkd t)) ∧ w.grownBy w' none := by
  obtain ⟨wa, hwa⟩ : ∃ wa, wa = w.alloc (.cells #[.int .i64 t, c1, c2, c3] 26) := ⟨_, rfl⟩
  have hg : w.grownBy wa none := by rw [hwa]; exact gb_alloc (gb_refl w none) _
  have hb : wa.heap[w.heap.size]? = some (.cells #[.int .i64 t, c1, c2, c3] 26 (0, 0)) := by rw [hwa]; exact heap_alloc_new w _
  obtain ⟨b0, b1, b2, b3⟩ : C4 wa w.heap.size 0 (.int .i64 t) c1 c2 c3 := ⟨by rw [blk_cell hb]; rfl, by rw [blk_cell hb]; rfl, by rw [blk_cell hb]; rfl, by rw [blk_cell hb]; rfl⟩
  have HG := hide hg
  have HWE := hide hwa
  by_cases h : t < 0
  · have HK := hide (show rkd t = -t by unfold rkd; rw [if_pos h])
    have h6 : IntKind.i64.wrap (-t) = -t := by rw [IntKind.wrap_i64]; omega
    clear hg hwa hb ht
    go_enter Tryz.func48, Tryz.ntmps48
    go_wp2_with fail
    rw [← HWE.out]
    go_wp2_with fail
    go_ret
    exact ⟨by rw [HK.out]; rfl, HG.out⟩
  · have HK := hide (show rkd t = t by unfold rkd; rw [if_neg h])
    clear hg hwa hb ht
    go_enter Tryz.func48, Tryz.ntmps48
    go_wp2_with fail
    rw [← HWE.out]
    go_wp2_with fail
    go_ret
    exact ⟨by rw [HK.out]; rfl, HG.out⟩
set_option maxHeartbeats 4000000 in
set_option maxRecDepth 100000 in
theorem rFlat_any (t : Int) (c1 c2 c3 : Value) (w : World) : Calls Tryz.prog 47 #[.agg #[.int .i64 t, c1, c2, c3]] w fun e w' => e = .returned (.bool (rFlat t)) ∧ w.grownBy w' none := by
  obtain ⟨wa, hwa⟩ : ∃ wa, wa = w.alloc (.cells #[.int .i64 t, c1, c2, c3] 26) := ⟨_, rfl⟩
  have hg : w.grownBy wa none := by rw [hwa]; exact gb_alloc (gb_refl w none) _
  have hb : wa.heap[w.heap.size]? = some (.cells #[.int .i64 t, c1, c2, c3] 26 (0, 0)) := by rw [hwa]; exact heap_alloc_new w _
  obtain ⟨b0, b1, b2, b3⟩ : C4 wa w.heap.size 0 (.int .i64 t) c1 c2 c3 := ⟨by rw [blk_cell hb]; rfl, by rw [blk_cell hb]; rfl, by rw [blk_cell hb]; rfl, by rw [blk_cell hb]; rfl⟩
  have HG := hide hg
  have HWE := hide hwa
  have HAT := hide (fun w2 => rAtom_any t c1 c2 c3 w2)
  have HVE := hide (fun w2 => rVec_any t c1 c2 c3 w2)
  have HF := hide (show rFlat t = (rAtom t || rVec t) from rfl)
  clear hg hwa hb
  rw [HF.out]
  clear HF
  generalize rVec t = rv at *
  cases hra : rAtom t
  · rw [hra] at HAT
    clear hra
    go_enter Tryz.func47, Tryz.ntmps47
    go_wp2_with fail
    rw [← HWE.out]
    go_wp2_with (first
      | (go_at_call 71; refine (HAT.out _).mono ?_; rintro e w2 ⟨rfl, hg2⟩; have HG2 := hide (gb_trans HG.out hg2 (.inl rfl)); have b0 := cell_gb b0 hg2; have b1 := cell_gb b1 hg2; have b2 := cell_gb b2 hg2; have b3 := cell_gb b3 hg2; clear hg2)
      | (go_at_call 60; refine (HVE.out _).mono ?_; rintro e w3 ⟨rfl, hg3⟩; have HG3 := hide (gb_trans HG2.out hg3 (.inl rfl)); clear hg3))
    go_ret
    exact ⟨rfl, HG3.out⟩
  · rw [hra] at HAT
    clear hra
    go_enter Tryz.func47, Tryz.ntmps47
    go_wp2_with fail
    rw [← HWE.out]
    go_wp2_with (go_at_call 71; refine (HAT.out _).mono ?_; rintro e w2 ⟨rfl, hg2⟩; have HG2 := hide (gb_trans HG.out hg2 (.inl rfl)); clear hg2)
    go_ret
    exact ⟨rfl, HG2.out⟩
theorem part_any (v : Vl) (c1 c2 c3 : Value) (w : World) : Calls Tryz.prog 29 #[.agg #[.int .i64 v.t, c1, c2, c3]] w fun e w' => e = .returned (.bool (kdV v == v.t)) ∧ w.grownBy w' none := by
  by_cases h : seqT v.t
  · rw [show (kdV v == v.t) = true from h.kind]
    exact part_yes v.t h c1 c2 c3 w
  · rw [show (kdV v == v.t) = false from beq_eq_false_iff_ne.2 fun e => h (kd_seq e)]
    exact part_no v.t h c1 c2 c3 w
def headK (l : List Vl) : Int := match l with | [] => 0 | h :: _ => rkd h.t
theorem headK_at {l : List Vl} (h : 0 < l.length) : headK l = rkd l[0].t := by
  cases l with
  | nil => simp at h
  | cons a r => rfl
/-- All so far are flat and of this kind, and there is one. -/
def alkQ (l : List Vl) (k0 : Int) (j : Nat) : Bool := decide (0 < l.length) && (l.take j).all fun x => rFlat x.t && (rkd x.t == k0)
theorem alkQ_zero (l : List Vl) (k0 : Int) : alkQ l k0 0 = decide (0 < l.length) := by unfold alkQ; simp
theorem alkQ_succ {l : List Vl} {k0 : Int} {j : Nat} (h : j < l.length) : alkQ l k0 (j + 1) = (alkQ l k0 j && (rFlat l[j].t && (rkd l[j].t == k0))) := by
  unfold alkQ
  rw [List.take_succ_eq_append_getElem h, List.all_append]
  simp [Bool.and_assoc]
end Go.Proofs.YtkbflmaflokpdaaGreat
