/-
  attr's Vector, element, Find.
-/
import Derived.Test.YtfdckhnhancbdaaAl
namespace Go.Proofs.Ytfdckhnhancbdaa
open Go.RowKit
attribute [local go_sem ↓] Go.wp_at_zero Go.wp_at_succ

theorem put4K_row {w : World} {g : Nat} (u0 u1 u2 u3 : Value) :
    w.grownBy ((((w.setCell ⟨g, 0, none⟩ u0).setCell ⟨g, 1, none⟩ u1).setCell ⟨g, 2, none⟩ u2).setCell ⟨g, 3, none⟩ u3) (some g) :=
  gb_trans (gb_trans (gb_trans (gb_cell _) (gb_cell _) (.inl rfl)) (gb_cell _) (.inl rfl)) (gb_cell _) (.inl rfl)
set_option maxHeartbeats 2000000 in
set_option maxRecDepth 100000 in
theorem vectorN_ix (base g : Nat) (f : List Nat) (mark : Int) (t : Int) (ht : ¬ t = 3) (es : List (Int × ByteArray)) (w : World) (h : IxF w base f g mark t es) (hl : es.length ≤ 1000000) :
    Calls Try.prog 21 #[.pointer (some ⟨g, 0, none⟩)] w (VecNP t (es.map (·.1)) w) := by
  obtain ⟨wa, hwa⟩ : ∃ wa, wa = w.alloc (.cells #[.int .i64 0, .slice none 0 0, .slice none 0 0, .slice none 0 0] 26) := ⟨_, rfl⟩
  have hga : w.grownBy wa none := by rw [hwa]; exact gb_alloc (gb_refl w none) _
  have hba : wa.heap[w.heap.size]? = some (.cells #[.int .i64 0, .slice none 0 0, .slice none 0 0, .slice none 0 0] 26 (0, 0)) := by rw [hwa]; exact heap_alloc_new w _
  obtain ⟨x, mb, tr, hI⟩ := h.gb hga
  obtain ⟨Av, cv, rfl, _, hcm, hrd⟩ := own_form2 hI.col.own
  have g1 : wa.cell? ⟨g, 1, none⟩ = some (.int .i64 t) := by rw [blk_cell hI.col.blk]; rfl
  have g2 : wa.cell? ⟨g, 2, none⟩ = some (.slice Av es.length cv) := by rw [blk_cell hI.col.blk]; rfl
  have HV := hide (vectorN_any t ht es Av cv wa.heap.size wa.drew hrd (Nat.le_refl _) hl)
  have HBA := hide hba
  have HGA := hide hga
  have HWE := hide hwa
  clear hI hrd hwa hga hba hcm h
  go_enter Try.func21, Try.ntmps21
  go_wp2_with fail
  rw [← HWE.out]
  go_still_tail 10, (by kernel_rfl)
  go_wp2_with fail
  refine HV.out.mono ?_
  rintro e w2 ⟨A, c, rfl, hv, hg2, hA⟩
  have hg2' : wa.grownBy w2 none := ⟨hg2.os, hg2.tape, hg2.output, hg2.size, hg2.block⟩
  have hb2 := blk_keep HBA.out hg2' (by simp)
  have z0 := blk_frozen hb2 0
  have z1 := blk_frozen hb2 1
  have z2 := blk_frozen hb2 2
  have z3 := blk_frozen hb2 3
  have x0 : w2.cell? ⟨w.heap.size, 0, none⟩ = some (.int .i64 0) := by rw [blk_cell hb2]; rfl
  have x1 : w2.cell? ⟨w.heap.size, 1, none⟩ = some (.slice none 0 0) := by rw [blk_cell hb2]; rfl
  have x2 : w2.cell? ⟨w.heap.size, 2, none⟩ = some (.slice none 0 0) := by rw [blk_cell hb2]; rfl
  have x3 : w2.cell? ⟨w.heap.size, 3, none⟩ = some (.slice none 0 0) := by rw [blk_cell hb2]; rfl
  have HG2 := hide (gb_trans HGA.out hg2' (.inl rfl))
  have HB2 := hide hb2
  have HVV := hide hv
  have HA := hide hA
  have HSZ := hide (Nat.lt_of_lt_of_le (blk_lt HBA.out) hg2'.size)
  clear hg2 hg2' hb2 hv hA
  rw [List.length_map]
  go_wp2_with fail
  have hb := put4K HB2.out (.int .i64 t) (.slice A es.length c) (.slice none 0 0) (.slice none 0 0)
  have m0 := blk_cell hb 0
  have m1 := blk_cell hb 1
  have m2 := blk_cell hb 2
  have m3 := blk_cell hb 3
  simp only [List.getElem?_toArray, List.getElem?_cons_zero, List.getElem?_cons_succ] at m0 m1 m2 m3
  refine bodyPost_ret (v := .agg #[.int .i64 t, .slice A es.length c, .slice none 0 0, .slice none 0 0]) (by simp [results, Try.results21, go_sem, m0, m1, m2, m3]) rfl ?_
  have hw4 : Wro w2 _ [w.heap.size] := Wro.of_gb (put4K_row (w := w2) (g := w.heap.size) (.int .i64 t) (.slice A es.length c) (.slice none 0 0) (.slice none 0 0)) (by simp)
  have hAn : ∀ ad, A = some ad → ad.block ∉ [w.heap.size] := fun ad ha hm => by
    have h1 := HA.out ad ha
    have h2 : ad.block = w.heap.size := by simpa using hm
    have h3 : wa.heap.size ≤ ad.block := h1
    have h4 := blk_lt HBA.out
    omega
  exact ⟨A, c, by rw [List.length_map], ⟨(hw4.rd HVV.out.n (fun ad ha _ => hAn ad ha) (Nat.le_refl _)).more hw4.size, Rd.nil_, ⟨[], Rd.nil_, rfl⟩, HVV.out.hn, HVV.out.hs, HVV.out.hl⟩, put4K_gb HG2.out (Nat.le_refl _) _ _ _ _, fun ad ha => Nat.le_trans HGA.out.size (HA.out ad ha)⟩
set_option maxHeartbeats 2000000 in
set_option maxRecDepth 100000 in
theorem vectorS_ix (base g : Nat) (f : List Nat) (mark : Int) (es : List (Int × ByteArray)) (w : World) (h : IxF w base f g mark 3 es) (hl : es.length ≤ 1000000) :
    Calls Try.prog 21 #[.pointer (some ⟨g, 0, none⟩)] w (VecSP (es.map (·.2)) w) := by
  obtain ⟨wa, hwa⟩ : ∃ wa, wa = w.alloc (.cells #[.int .i64 0, .slice none 0 0, .slice none 0 0, .slice none 0 0] 26) := ⟨_, rfl⟩
  have hga : w.grownBy wa none := by rw [hwa]; exact gb_alloc (gb_refl w none) _
  have hba : wa.heap[w.heap.size]? = some (.cells #[.int .i64 0, .slice none 0 0, .slice none 0 0, .slice none 0 0] 26 (0, 0)) := by rw [hwa]; exact heap_alloc_new w _
  obtain ⟨x, mb, tr, hI⟩ := h.gb hga
  obtain ⟨Av, cv, rfl, _, hcm, hrd⟩ := own_form2 hI.col.own
  have g1 : wa.cell? ⟨g, 1, none⟩ = some (.int .i64 3) := by rw [blk_cell hI.col.blk]; rfl
  have g2 : wa.cell? ⟨g, 2, none⟩ = some (.slice Av es.length cv) := by rw [blk_cell hI.col.blk]; rfl
  have HV := hide (vectorS_any es Av cv wa.heap.size wa.drew hrd (Nat.le_refl _) hl)
  have HBA := hide hba
  have HGA := hide hga
  have HWE := hide hwa
  clear hI hrd hwa hga hba hcm h
  go_enter Try.func21, Try.ntmps21
  go_wp2_with fail
  rw [← HWE.out]
  go_still_tail 10, (by kernel_rfl)
  go_wp2_with fail
  refine HV.out.mono ?_
  rintro e w2 ⟨A, c, rfl, hv, hg2, hA⟩
  have hg2' : wa.grownBy w2 none := ⟨hg2.os, hg2.tape, hg2.output, hg2.size, hg2.block⟩
  have hb2 := blk_keep HBA.out hg2' (by simp)
  have z0 := blk_frozen hb2 0
  have z1 := blk_frozen hb2 1
  have z2 := blk_frozen hb2 2
  have z3 := blk_frozen hb2 3
  have x0 : w2.cell? ⟨w.heap.size, 0, none⟩ = some (.int .i64 0) := by rw [blk_cell hb2]; rfl
  have x1 : w2.cell? ⟨w.heap.size, 1, none⟩ = some (.slice none 0 0) := by rw [blk_cell hb2]; rfl
  have x2 : w2.cell? ⟨w.heap.size, 2, none⟩ = some (.slice none 0 0) := by rw [blk_cell hb2]; rfl
  have x3 : w2.cell? ⟨w.heap.size, 3, none⟩ = some (.slice none 0 0) := by rw [blk_cell hb2]; rfl
  have HG2 := hide (gb_trans HGA.out hg2' (.inl rfl))
  have HB2 := hide hb2
  have HVV := hide hv
  have HA := hide hA
  have HSZ := hide (Nat.lt_of_lt_of_le (blk_lt HBA.out) hg2'.size)
  clear hg2 hg2' hb2 hv hA
  rw [List.length_map]
  go_wp2_with fail
  have hb := put4K HB2.out (.int .i64 3) (.slice none 0 0) (.slice A es.length c) (.slice none 0 0)
  have m0 := blk_cell hb 0
  have m1 := blk_cell hb 1
  have m2 := blk_cell hb 2
  have m3 := blk_cell hb 3
  simp only [List.getElem?_toArray, List.getElem?_cons_zero, List.getElem?_cons_succ] at m0 m1 m2 m3
  refine bodyPost_ret (v := .agg #[.int .i64 3, .slice none 0 0, .slice A es.length c, .slice none 0 0]) (by simp [results, Try.results21, go_sem, m0, m1, m2, m3]) rfl ?_
  have hw4 : Wro w2 _ [w.heap.size] := Wro.of_gb (put4K_row (w := w2) (g := w.heap.size) (.int .i64 3) (.slice none 0 0) (.slice A es.length c) (.slice none 0 0)) (by simp)
  have hAn : ∀ ad, A = some ad → ad.block ∉ [w.heap.size] := fun ad ha hm => by
    have h1 := HA.out ad ha
    have h2 : ad.block = w.heap.size := by simpa using hm
    have h3 : wa.heap.size ≤ ad.block := h1
    have h4 := blk_lt HBA.out
    omega
  exact ⟨A, c, by rw [List.length_map], ⟨Rd.nil_, (hw4.rd HVV.out.s (fun ad ha _ => hAn ad ha) (Nat.le_refl _)).more hw4.size, ⟨[], Rd.nil_, rfl⟩, HVV.out.hn, HVV.out.hs, HVV.out.hl⟩, put4K_gb HG2.out (Nat.le_refl _) _ _ _ _, fun ad ha => Nat.le_trans HGA.out.size (HA.out ad ha)⟩
set_option maxHeartbeats 4000000 in
set_option maxRecDepth 100000 in
theorem cloneN_any (A : Option Addr) (c B : Nat) (l : List Nat) (w : World) (h : Rd w B A (nts l)) (hB : B ≤ w.heap.size) (hl : l.length ≤ 1100000) :
    Calls Try.prog 49 #[.slice A l.length c] w (ClonePost w 3 l.length (nts l)) := by
  have hq := fun (w : World) (A : Option Addr) (n c : Nat) => Lib.run_eql_slice_nil (P := Try.prog) w 55 3 A n c 0 0 Try.underlying55
  rcases A with _ | ad
  · have hb : l = [] := by
      rcases l with _ | ⟨b, l⟩
      · rfl
      · obtain ⟨_, e, _⟩ := h (by simp [nts]); cases e
    subst hb
    go_enter Try.func49, Try.ntmps49
    go_wp2
    go_ret
    exact ⟨_, _, rfl, Nat.le_refl _, ⟨rfl, .inl ⟨rfl, rfl⟩⟩, gb_refl _ _⟩
  · have HO := hide (own_nil w 3 1)
    have HR := hide (h.alloc hB (.cells #[] 3))
    have HL1 : Hid ((nts l).length = l.length * 1) := hide (by simp [nts])
    have HOC := hide (nts_one l)
    have HM1 : Hid (0 + l.length ≤ maxLen) := hide (by unfold maxLen; omega)
    have HMB : Hid ((0 + l.length) * 8 ≤ 140737488355328) := hide (by omega)
    have HBS : Hid (w.heap.size ≤ (w.alloc (.cells #[] 3)).heap.size) := hide (by simp)
    obtain ⟨i1, hi1, hiz, his, hib⟩ := info_parts Try.infoN
    have HI1 := hide hi1
    have HIZ := hide hiz
    have HIS := hide his
    have HIB := hide hib
    clear h hl hi1 hiz his hib
    go_enter Try.func49, Try.ntmps49
    go_wp2_with (at_builtin; refine wpList_append_rd _ rfl (.tmp 5) (.tmp 6) 55 rfl w.heap.size 3 i1 (.int .i64 0) 1 8 Try.underlying55 HI1.out HIZ.out HIS.out HIB.out rfl (Nat.succ_pos 0) (.slice (some ⟨w.heap.size, 0, none⟩) 0 0) 0 [] rfl HO.out B (some ad) l.length c (nts l) rfl HL1.out HR.out HOC.out HM1.out HMB.out HBS.out ?_; intro v5 w5 ho5 hg5 hb5; rw [Nat.zero_add, List.nil_append] at ho5; obtain ⟨A5, c5, rfl, hc5⟩ := own_slice ho5; have HO5 := hide ho5; have HG5 := hide hg5; clear ho5 hg5 hb5)
    go_ret
    exact ⟨A5, c5, rfl, hc5, HO5.out, gb_trans (gb_alloc (gb_refl w none) (.cells #[] 3)) HG5.out (.inr (.inr ⟨_, rfl, Nat.le_refl _⟩))⟩
end Go.Proofs.Ytfdckhnhancbdaa
