/-
  The document's Vector, the law's ints and num.
-/
import Derived.Test.YtnilcnobngcbgaaGreatEe
import Derived.Test.YtnilcnobngcbgaaGreatVq
import Derived.Test.YtnilcnobngcbgaaGreatWf
namespace Go.Proofs.YtnilcnobngcbgaaGreat
open Go.RowKit
attribute [local go_sem ↓] Go.wp_at_zero Go.wp_at_succ

set_option maxHeartbeats 2000000 in
set_option maxRecDepth 100000 in
theorem num7_any (n : Int) (w : World) : Calls Tryz.prog 13 #[.int .i64 n] w fun e w' => e = .returned (.int .i64 n) ∧ w = w' := by
  go_enter Tryz.func13, Tryz.ntmps13
  go_wp2_with fail
  exact bodyPost_ret (v := .int .i64 n) (by simp [results, Tryz.results13, go_sem]) rfl ⟨rfl, rfl⟩
set_option maxHeartbeats 2000000 in
set_option maxRecDepth 100000 in
theorem vector2_any (l : List Int) (w : World) (A : Option Addr) (c : Nat) (hl : l.length ≤ 1100000) (hr : Rd w w.heap.size A (i64s l)) :
    Calls Tryz.prog 58 #[.int .i64 2, .slice A l.length c] w (NewV (.mk 2 l [] []) w) := by
  obtain ⟨wa, hwa⟩ : ∃ wa, wa = w.alloc (.cells #[.int .i64 0, .slice none 0 0, .slice none 0 0, .slice none 0 0] 26) := ⟨_, rfl⟩
  have hb : wa.heap[w.heap.size]? = some (.cells #[.int .i64 0, .slice none 0 0, .slice none 0 0, .slice none 0 0] 26 (0, 0)) := by rw [hwa]; exact heap_alloc_new w _
  have hg : w.grownBy wa none := by rw [hwa]; exact gb_alloc (gb_refl w none) _
  have HB := hide hb
  have HG := hide hg
  have HWE := hide hwa
  have HSZ := hide (show wa.heap.size = w.heap.size + 1 by rw [hwa]; simp)
  obtain ⟨i1, hi1, hiz, his, hib⟩ := info_parts Tryz.info64
  have HI1 := hide hi1
  have HIZ := hide hiz
  have HIS := hide his
  have HIB := hide hib
  have hro : (wa.alloc (.cells #[] 2)).ownsRow (w.heap.size + 1) 2 1 (.slice (some ⟨w.heap.size + 1, 0, none⟩) 0 0) 0 [] := by
    have h := World.ownsRow_lit (base := w.heap.size + 1) (e := 2) (size := 1) wa #[] 0 (by rw [HSZ.out]; exact Nat.le_refl _) (by decide) rfl
    rw [HSZ.out] at h
    exact h
  have HO := hide hro
  have hga : w.grownBy (wa.alloc (.cells #[] 2)) none := gb_alloc hg _
  have HGA := hide (show wa.grownBy (wa.alloc (.cells #[] 2)) none from gb_alloc (gb_refl wa none) _)
  have HR2 := hide (hr.grown hga (Nat.le_refl _) (by simp))
  have HL1 : Hid ((i64s l).length = l.length * 1) := hide (by simp [i64s])
  have HOC := hide (i64s_one l)
  have HM1 : Hid (0 + l.length ≤ maxLen) := hide (by unfold maxLen; omega)
  have HMB : Hid ((0 + l.length) * 8 ≤ 140737488355328) := hide (by omega)
  have HBS : Hid (w.heap.size + 1 ≤ (wa.alloc (.cells #[] 2)).heap.size) := hide (by rw [World.size_alloc, HSZ.out]; omega)
  have HLL := hide (Nat.zero_add l.length)
  clear hb hg hwa hr hl hi1 hiz his hib hro hga
  go_enter Tryz.func58, Tryz.ntmps58
  go_wp2_with (at_builtin; rw [← HWE.out]; refine wpList_append_rd _ rfl (.tmp 6) (.tmp 7) 22 rfl (w.heap.size + 1) 2 i1 (.int .i64 0) 1 8 Tryz.underlying22 HI1.out HIZ.out HIS.out HIB.out rfl (Nat.succ_pos 0) (.slice (some ⟨w.heap.size + 1, 0, none⟩) 0 0) 0 [] rfl HO.out w.heap.size A l.length c (i64s l) rfl HL1.out HR2.out HOC.out HM1.out HMB.out HBS.out ?_
               intro v5 w5 ho5 hg5 hb5
               rw [HLL.out, List.nil_append] at ho5
               obtain ⟨N5, nc5, rfl, hnc5⟩ := own_slice ho5
               have HO5 := hide ho5
               have hgo : (wa.alloc (.cells #[] 2)).grownBy w5 (some (w.heap.size + 1)) := hg5
               have HG5 := hide (show wa.grownBy w5 none from gb_trans HGA.out hgo (.inr (.inr ⟨_, rfl, by rw [HSZ.out]; exact Nat.le_refl _⟩)))
               have hr2 := (HG5.out.block _ (blk_lt HB.out) (by simp)).trans HB.out
               have HNC := hide hnc5
               have HR5 := hide hr2
               have z0 := blk_frozen hr2 0
               have z1 := blk_frozen hr2 1
               have z2 := blk_frozen hr2 2
               have z3 := blk_frozen hr2 3
               have y0 : w5.cell? ⟨w.heap.size, 0, none⟩ = some (.int .i64 0) := (by { rw [blk_cell hr2]; rfl })
               have y1 : w5.cell? ⟨w.heap.size, 1, none⟩ = some (.slice none 0 0) := (by { rw [blk_cell hr2]; rfl })
               have y2 : w5.cell? ⟨w.heap.size, 2, none⟩ = some (.slice none 0 0) := (by { rw [blk_cell hr2]; rfl })
               have y3 : w5.cell? ⟨w.heap.size, 3, none⟩ = some (.slice none 0 0) := (by { rw [blk_cell hr2]; rfl })
               clear ho5 hg5 hb5 hgo hr2 hnc5)
  obtain ⟨f1, o1, b1⟩ := Own.of_row HO5.out
  have hn : New wa w5 (f1 ++ ([] ++ ([] ++ []))) := by
    simp only [List.append_nil]
    refine ⟨?_, fun b hb => ?_⟩
    · match f1, o1.len with
      | [], _ => simp
      | [x], _ => simp
    · have := b1 b hb
      have := HSZ.out
      exact ⟨by omega, by omega⟩
  have hb := put_four HR5.out (.int .i64 2) (.slice N5 l.length nc5) (.slice none 0 0) (.slice none 0 0)
  have m0 := blk_cell hb 0
  have m1 := blk_cell hb 1
  have m2 := blk_cell hb 2
  have m3 := blk_cell hb 3
  simp only [List.getElem?_toArray, List.getElem?_cons_zero, List.getElem?_cons_succ] at m0 m1 m2 m3
  refine bodyPost_ret (v := .agg #[.int .i64 2, .slice N5 l.length nc5, .slice none 0 0, .slice none 0 0]) (by simp [results, Tryz.results58, go_sem, m0, m1, m2, m3]) rfl ?_
  exact NewV.of_put (v := .mk 2 l [] []) (f1 := f1) (f2 := []) (f := []) (g := []) (xs := []) HSZ.out HG.out HG5.out HNC.out o1 (Nat.le_refl _) (.inl ⟨rfl, rfl⟩) (Nat.le_refl _) (.inl ⟨rfl, rfl⟩) ⟨rfl, rfl⟩ hn
set_option maxHeartbeats 2000000 in
set_option maxRecDepth 100000 in
theorem ints7_any (l : List Int) (w : World) (A : Option Addr) (c : Nat) (hl : l.length ≤ 1100000) (hr : Rd w w.heap.size A (i64s l)) :
    Calls Tryz.prog 28 #[.slice A l.length c] w (NewV (.mk 2 l [] []) w) := by
  obtain ⟨wa, hwa⟩ : ∃ wa, wa = w.alloc (.cells #[.int .i64 0, .slice none 0 0, .slice none 0 0, .slice none 0 0] 26) := ⟨_, rfl⟩
  have hb : wa.heap[w.heap.size]? = some (.cells #[.int .i64 0, .slice none 0 0, .slice none 0 0, .slice none 0 0] 26 (0, 0)) := by rw [hwa]; exact heap_alloc_new w _
  have hg : w.grownBy wa none := by rw [hwa]; exact gb_alloc (gb_refl w none) _
  have HB := hide hb
  have HG := hide hg
  have HWE := hide hwa
  have HSZ := hide (show wa.heap.size = w.heap.size + 1 by rw [hwa]; simp)
  have HV := hide (vector2_any l wa A c hl ((hr.grown hg (Nat.le_refl _) (by simp)).more hg.size))
  clear hb hg hwa hr hl
  go_enter Tryz.func28, Tryz.ntmps28
  go_wp2_with (go_at_call 58; rw [← HWE.out]; refine HV.out.mono ?_; rintro e w3 ⟨nA, nc, sA, sc, lA, lc, f, he, ho, hn, hg3⟩; obtain rfl : e = .returned (.agg #[.int .i64 2, .slice nA l.length nc, .slice sA 0 sc, .slice lA 0 lc]) := he; have HO := hide ho; have HN := hide hn; have HG5 := hide (gb_trans HG.out hg3 (.inl rfl)); have hr2 := blk_keep HB.out hg3 (by simp); have HR2 := hide hr2; have z0 := blk_frozen hr2 0; have z1 := blk_frozen hr2 1; have z2 := blk_frozen hr2 2; have z3 := blk_frozen hr2 3; have y0 : w3.cell? ⟨w.heap.size, 0, none⟩ = some (.int .i64 0) := (by { rw [blk_cell hr2]; rfl }); have y1 : w3.cell? ⟨w.heap.size, 1, none⟩ = some (.slice none 0 0) := (by { rw [blk_cell hr2]; rfl }); have y2 : w3.cell? ⟨w.heap.size, 2, none⟩ = some (.slice none 0 0) := (by { rw [blk_cell hr2]; rfl }); have y3 : w3.cell? ⟨w.heap.size, 3, none⟩ = some (.slice none 0 0) := (by { rw [blk_cell hr2]; rfl }); clear ho hn hg3 hr2)
  have hb := put_four HR2.out (.int .i64 2) (.slice nA l.length nc) (.slice sA 0 sc) (.slice lA 0 lc)
  have m0 := blk_cell hb 0
  have m1 := blk_cell hb 1
  have m2 := blk_cell hb 2
  have m3 := blk_cell hb 3
  simp only [List.getElem?_toArray, List.getElem?_cons_zero, List.getElem?_cons_succ] at m0 m1 m2 m3
  refine bodyPost_ret (v := .agg #[.int .i64 2, .slice nA l.length nc, .slice sA 0 sc, .slice lA 0 lc]) (by simp [results, Tryz.results28, go_sem, m0, m1, m2, m3]) rfl ?_
  have hsz := HSZ.out
  refine ⟨nA, nc, sA, sc, lA, lc, f, rfl, ?_, ⟨HN.out.1, fun b hb => ?_⟩, put_four_gb HG5.out (Nat.le_refl _) _ _ _ _⟩
  · exact VOw.keep _ _ _ HO.out fun b hm => put_four_other (by have := (HN.out.2 b hm).1; omega) _ _ _ _
  · have h2 := HN.out.2 b hb
    refine ⟨by omega, ?_⟩
    simp [World.setCell]
    exact h2.2
end Go.Proofs.YtnilcnobngcbgaaGreat
