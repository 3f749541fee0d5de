/-
  attr's element, Find.
-/
import Derived.Test.YtfdckhnhancbdaaAm
import Derived.Deep.RegionLaw
namespace Go.Proofs.Ytfdckhnhancbdaa
open Go.RowKit
attribute [local go_sem ↓] Go.wp_at_zero Go.wp_at_succ

set_option maxHeartbeats 2000000 in
set_option maxRecDepth 100000 in
theorem element_ok (base g : Nat) (f : List Nat) (mark t : Int) (es : List (Int × ByteArray)) (a : Vl) (k : Int × ByteArray) (hk : keysV a = [k]) (ht : a.t = -t) (htb : 1 ≤ t ∧ t ≤ 5) (nA : Option Addr) (nc : Nat) (sA : Option Addr) (sc : Nat) (lA : Option Addr) (lc ll : Nat) (w : World) (h : IxF w base f g mark t es)
    (hn : Rd w w.heap.size nA (i64s a.n)) (hs : Rd w w.heap.size sA (strs a.s)) (hl : a.n.length ≤ 100000 ∧ a.s.length ≤ 100000) :
    Calls Try.prog 46 #[.pointer (some ⟨g, 0, none⟩), .agg #[.int .i64 a.t, .slice nA a.n.length nc, .slice sA a.s.length sc, .slice lA ll lc]] w fun e w' => e = .returned (.tuple #[kagg k, .int .i64 0]) ∧ w.grownBy w' none := by
  obtain ⟨wa, hwa⟩ : ∃ wa, wa = (w.alloc (.cells #[.int .i64 a.t, .slice nA a.n.length nc, .slice sA a.s.length sc, .slice lA ll lc] 26)).alloc (.cells #[.int .i64 0, .string ⟨#[]⟩] 89) := ⟨_, rfl⟩
  have hga : w.grownBy wa none := by rw [hwa]; exact gb_alloc (gb_alloc (gb_refl w none) _) _
  have hba : wa.heap[w.heap.size]? = some (.cells #[.int .i64 a.t, .slice nA a.n.length nc, .slice sA a.s.length sc, .slice lA ll lc] 26 (0, 0)) := by rw [hwa]; exact (Below.heap_alloc _ _ _ (by rw [World.size_alloc]; omega)).trans (heap_alloc_new w _)
  have hbk : wa.heap[w.heap.size + 1]? = some (.cells #[.int .i64 0, .string ⟨#[]⟩] 89 (0, 0)) := by
    rw [hwa]
    have := heap_alloc_new (w.alloc (.cells #[.int .i64 a.t, .slice nA a.n.length nc, .slice sA a.s.length sc, .slice lA ll lc] 26)) (.cells #[.int .i64 0, .string ⟨#[]⟩] 89)
    rwa [World.size_alloc] at this
  obtain ⟨x, mb, tr, hI⟩ := h.gb hga
  have g1 : wa.cell? ⟨g, 1, none⟩ = some (.int .i64 t) := by rw [blk_cell hI.col.blk]; rfl
  have y0 : wa.cell? ⟨w.heap.size, 0, none⟩ = some (.int .i64 (-t)) := by rw [blk_cell hba, ht]; rfl
  have hw1 : IntKind.i64.wrap (-t) = -t := by rw [IntKind.wrap_i64]; omega
  have HN := hide (hn.grown hga (Nat.le_refl _) (by simp))
  have HS := hide (hs.grown hga (Nat.le_refl _) (by simp))
  have HL := hide hl
  have HBA := hide hba
  have HBK := hide hbk
  have HGA := hide hga
  have HWE := hide hwa
  have HK := hide hk
  have HT := hide ht
  clear hI hwa hga hba hbk h hn hs hl hk ht
  go_enter Try.func46, Try.ntmps46
  go_wp2_with fail
  rw [← HWE.out]
  go_quiet (fail)
  obtain ⟨wq, hwq⟩ : ∃ wq, wq = wa.drewN nq := ⟨_, rfl⟩
  have hgq : wa.grownBy wq none := by rw [hwq]; exact gb_drewN (gb_refl wa none) _
  rw [← hwq]
  have hbq := blk_keep HBA.out hgq (by simp)
  have y0 : wq.cell? ⟨w.heap.size, 0, none⟩ = some (.int .i64 a.t) := by rw [blk_cell hbq]; rfl
  have y1 : wq.cell? ⟨w.heap.size, 1, none⟩ = some (.slice nA a.n.length nc) := by rw [blk_cell hbq]; rfl
  have y2 : wq.cell? ⟨w.heap.size, 2, none⟩ = some (.slice sA a.s.length sc) := by rw [blk_cell hbq]; rfl
  have y3 : wq.cell? ⟨w.heap.size, 3, none⟩ = some (.slice lA ll lc) := by rw [blk_cell hbq]; rfl
  have HKS := hide (keys_any a nA nc sA sc (.slice lA ll lc) w.heap.size wq (HN.out.grown hgq HGA.out.size (by simp)) (HS.out.grown hgq HGA.out.size (by simp)) (Nat.le_trans HGA.out.size hgq.size) ⟨by have := HL.out; omega, by have := HL.out; omega⟩)
  rw [HK.out] at HKS
  have HGQ := hide (gb_trans HGA.out hgq (.inl rfl))
  have HBQ := hide (blk_keep HBK.out hgq (by simp))
  clear hwq hgq hbq g1
  go_wp2_with fail
  refine HKS.out.mono ?_
  rintro e w3 ⟨b, rfl, hb, hrd, hg3⟩
  have hb3 := blk_keep HBQ.out hg3 (by simp)
  obtain ⟨B, o, hB, _, hcell⟩ := hrd.key (by simp)
  obtain ⟨rfl, rfl⟩ : b = B ∧ 0 = o := by injection hB with hB; injection hB with h1 h2; exact ⟨h1, h2⟩
  obtain ⟨k0, k1⟩ := hcell 0 (by simp)
  simp only [List.getElem_cons_zero, Nat.zero_mul, Nat.zero_add] at k0 k1
  have z0 := blk_frozen hb3 0
  have z1 := blk_frozen hb3 1
  have x0 : w3.cell? ⟨w.heap.size + 1, 0, none⟩ = some (.int .i64 0) := by rw [blk_cell hb3]; rfl
  have x1 : w3.cell? ⟨w.heap.size + 1, 1, none⟩ = some (.string ⟨#[]⟩) := by rw [blk_cell hb3]; rfl
  have HB3 := hide hb3
  have HG3 := hide (gb_trans HGQ.out hg3 (.inl rfl))
  clear hb3 hg3 hrd hcell hB y0 y1 y2 y3 hb
  go_wp2_with fail
  have hb := blk_set (blk_set HB3.out 0 (.int .i64 k.1)) 1 (.string k.2)
  have m0 := blk_cell hb 0
  have m1 := blk_cell hb 1
  simp at m0 m1
  unfold kagg
  refine bodyPost_ret (v := .tuple #[.agg #[.int .i64 k.1, .string k.2], .int .i64 0]) (by simp [results, Try.results46, go_sem, m0, m1]) rfl ⟨rfl, ?_⟩
  exact gb_setCell (p := ⟨w.heap.size + 1, 1, none⟩) (gb_setCell (p := ⟨w.heap.size + 1, 0, none⟩) HG3.out (.inr (Nat.le_succ _)) _) (.inr (Nat.le_succ _)) _
/-- What Find leaves. -/
def FindP (l : List Nat) (w : World) (e : Ending) (w' : World) : Prop := ∃ A c, e = .returned (.tuple #[.slice A l.length c, .int .i64 0]) ∧ Rd w' w'.heap.size A (nts l) ∧ w.grownBy w' none ∧ ∀ ad, A = some ad → l ≠ [] → w.heap.size ≤ ad.block
set_option maxHeartbeats 4000000 in
set_option maxRecDepth 100000 in
theorem find_ok (base g : Nat) (f : List Nat) (mark t : Int) (es : List (Int × ByteArray)) (a : Vl) (k : Int × ByteArray) (hk : keysV a = [k]) (ht : a.t = -t) (htb : 1 ≤ t ∧ t ≤ 5) (nA : Option Addr) (nc : Nat) (sA : Option Addr) (sc : Nat) (lA : Option Addr) (lc ll : Nat) (w : World) (h : IxF w base f g mark t es)
    (hn : Rd w w.heap.size nA (i64s a.n)) (hs : Rd w w.heap.size sA (strs a.s)) (hl : a.n.length ≤ 100000 ∧ a.s.length ≤ 100000) (hes : es.length ≤ 100000) :
    Calls Try.prog 23 #[.pointer (some ⟨g, 0, none⟩), .agg #[.int .i64 a.t, .slice nA a.n.length nc, .slice sA a.s.length sc, .slice lA ll lc]] w (FindP (places es k) w) := by
  obtain ⟨wa, hwa⟩ : ∃ wa, wa = w.alloc (.cells #[.int .i64 a.t, .slice nA a.n.length nc, .slice sA a.s.length sc, .slice lA ll lc] 26) := ⟨_, rfl⟩
  have hga : w.grownBy wa none := by rw [hwa]; exact gb_alloc (gb_refl w none) _
  have hba : wa.heap[w.heap.size]? = some (.cells #[.int .i64 a.t, .slice nA a.n.length nc, .slice sA a.s.length sc, .slice lA ll lc] 26 (0, 0)) := by rw [hwa]; exact heap_alloc_new w _
  have y0 : wa.cell? ⟨w.heap.size, 0, none⟩ = some (.int .i64 a.t) := by rw [blk_cell hba]; rfl
  have y1 : wa.cell? ⟨w.heap.size, 1, none⟩ = some (.slice nA a.n.length nc) := by rw [blk_cell hba]; rfl
  have y2 : wa.cell? ⟨w.heap.size, 2, none⟩ = some (.slice sA a.s.length sc) := by rw [blk_cell hba]; rfl
  have y3 : wa.cell? ⟨w.heap.size, 3, none⟩ = some (.slice lA ll lc) := by rw [blk_cell hba]; rfl
  have HE := hide (fun (wq : World) (hgq : wa.grownBy wq none) => element_ok base g f mark t es a k hk ht htb nA nc sA sc lA lc ll wq (h.gb (gb_trans hga hgq (.inl rfl))) ((hn.grown (gb_trans hga hgq (.inl rfl)) (Nat.le_refl _) (by simp)).more (Nat.le_trans hga.size hgq.size)) ((hs.grown (gb_trans hga hgq (.inl rfl)) (Nat.le_refl _) (by simp)).more (Nat.le_trans hga.size hgq.size)) hl)
  have HY := hide hba
  have HI := hide (h.gb hga)
  have HGA := hide hga
  have HWE := hide hwa
  have HES := hide hes
  clear hwa hga hba h hn hs hl hk ht htb hes
  unfold kagg at HE
  go_enter Try.func23, Try.ntmps23
  go_wp2_with fail
  rw [← HWE.out]
  have v0 : ∀ o, (wa.alloc o).cell? ⟨w.heap.size, 0, none⟩ = some (.int .i64 a.t) := fun o => by rw [World.cell?_alloc_lt wa o _ (blk_lt HY.out), blk_cell HY.out]; rfl
  have v1 : ∀ o, (wa.alloc o).cell? ⟨w.heap.size, 1, none⟩ = some (.slice nA a.n.length nc) := fun o => by rw [World.cell?_alloc_lt wa o _ (blk_lt HY.out), blk_cell HY.out]; rfl
  have v2 : ∀ o, (wa.alloc o).cell? ⟨w.heap.size, 2, none⟩ = some (.slice sA a.s.length sc) := fun o => by rw [World.cell?_alloc_lt wa o _ (blk_lt HY.out), blk_cell HY.out]; rfl
  have v3 : ∀ o, (wa.alloc o).cell? ⟨w.heap.size, 3, none⟩ = some (.slice lA ll lc) := fun o => by rw [World.cell?_alloc_lt wa o _ (blk_lt HY.out), blk_cell HY.out]; rfl
  go_region_law (first
    | (go_simp; go_at_call 46; refine (HE.out wa.drew (gb_drew (gb_refl wa none))).mono ?_; rintro e w1 ⟨rfl, hg1⟩; have HG1 := hide (show wa.grownBy w1 none from ⟨hg1.os, hg1.tape, hg1.output, hg1.size, hg1.block⟩); clear hg1)
    | (go_simp; go_at_call 46; refine (HE.out (wa.alloc (.cells #[.int .i64 0, .string ⟨#[]⟩] 89)).drew (gb_drew (gb_alloc (gb_refl wa none) _))).mono ?_; rintro e w1 ⟨rfl, hg1⟩; have HG1 := hide (show wa.grownBy w1 none from gb_trans (gb_alloc (gb_refl wa none) (.cells #[.int .i64 0, .string ⟨#[]⟩] 89)) (show (wa.alloc (.cells #[.int .i64 0, .string ⟨#[]⟩] 89)).grownBy w1 none from ⟨hg1.os, hg1.tape, hg1.output, hg1.size, hg1.block⟩) (.inl rfl)); have HBX := hide (show w1.heap[wa.heap.size]? = some (.cells #[.int .i64 0, .string ⟨#[]⟩] 89 (0, 0)) from (hg1.block _ (by simp) (by simp)).trans (heap_alloc_new wa _)); have x0 : w1.cell? ⟨wa.heap.size, 0, none⟩ = some (.int .i64 0) := (by { rw [blk_cell HBX.out]; rfl }); have x1 : w1.cell? ⟨wa.heap.size, 1, none⟩ = some (.string ⟨#[]⟩) := (by { rw [blk_cell HBX.out]; rfl }); have z0 := blk_frozen HBX.out 0; have z1 := blk_frozen HBX.out 1; clear hg1))
  all_goals first
    | (obtain ⟨wz, hwz⟩ : ∃ wz, wz = w1.alloc (.cells #[.int .i64 k.1, .string k.2] 89) := ⟨_, rfl⟩
       have hgz : wa.grownBy wz none := by rw [hwz]; exact gb_alloc HG1.out _
       have hbz : wz.heap[w1.heap.size]? = some (.cells #[.int .i64 k.1, .string k.2] 89 (0, 0)) := by rw [hwz]; exact heap_alloc_new w1 _
       rw [← hwz]
       have b0 : wz.cell? ⟨w1.heap.size, 0, none⟩ = some (.int .i64 k.1) := by rw [blk_cell hbz]; rfl
       have b1 : wz.cell? ⟨w1.heap.size, 1, none⟩ = some (.string k.2) := by rw [blk_cell hbz]; rfl
       obtain ⟨x, mb, tr, hI⟩ := HI.out.gb hgz
       have c5 : wz.cell? ⟨g, 5, none⟩ = some (.map (some mb)) := by rw [blk_cell hI.col.blk]; rfl
       obtain ⟨y, hy⟩ : ∃ y, y = (aget tr k).getD (.slice none 0 0, []) := ⟨_, rfl⟩
       have hyl : y.2 = places es k := by
         rw [hy, ← hI.pl.get k, trL_get]
         cases aget tr k <;> rfl
       have hyo : wz.ownsRow base 3 1 y.1 y.2.length (nts y.2) := by
         rw [hy]
         cases e : aget tr k with
         | none => exact World.ownsRow_nil wz base 3 1
         | some q => exact hI.rows (k, q) (aget_mem e)
       have hlk := MapK.look key_run (w := wz.drew) hI.map Try.underlying75 (z := .slice none 0 0) (by kernel_rfl) k false
       have hyv : ((aget (trV tr) k).map encP.ev).getD (.slice none 0 0) = y.1 := by rw [hy, trV_get]; cases aget tr k <;> rfl
       rw [hyv] at hlk
       rw [hyl] at hyo
       obtain ⟨Ay, cy, hye, _, _, hry⟩ := own_form2 hyo
       rw [hye] at hlk
       have HLK : (Instr.lookup 75 (.map (some mb)) (.agg #[.int .i64 k.1, .string k.2]) false).run Try.prog wz.drew = .ok (.slice Ay (places es k).length cy) wz.drew := hlk
       have HCL := hide (cloneN_any Ay cy wz.heap.size (places es k) wz.drew hry (Nat.le_refl _) (by have := HES.out; unfold places; exact Nat.le_trans (List.length_filter_le _ _) (by simp; omega)))
       have HGZ := hide (gb_trans HGA.out hgz (.inl rfl))
       clear hwz hgz hbz hI hy hyl hyo hlk hyv hye hry
       go_wp2_with fail
       go_still_tail 6, (by kernel_rfl)
       go_wp2_with fail
       refine HCL.out.mono ?_
       rintro e w5 ⟨A5, c5', rfl, _, ho5, hg5⟩
       have HO5 := hide ho5
       have HG5 := hide (show w.grownBy w5 none from gb_trans HGZ.out (show wz.grownBy w5 none from ⟨hg5.os, hg5.tape, hg5.output, hg5.size, hg5.block⟩) (.inl rfl))
       have HAB := hide (show ∀ ad, A5 = some ad → places es k ≠ [] → w.heap.size ≤ ad.block from fun ad ha _ => by subst ha; exact Nat.le_trans HGZ.out.size (own_lt ho5 (g := ad.block) rfl).2)
       clear ho5 hg5
       go_wp2_with fail
       go_ret2
       exact ⟨A5, c5', rfl, Rd.of_own HO5.out, HG5.out, HAB.out⟩)
    | (obtain ⟨wz, hwz⟩ : ∃ wz, wz = (w1.setCell ⟨wa.heap.size, 0, none⟩ (.int .i64 k.1)).setCell ⟨wa.heap.size, 1, none⟩ (.string k.2) := ⟨_, rfl⟩
       have hgz : wa.grownBy wz none := by rw [hwz]; exact gb_setCell (p := ⟨wa.heap.size, 1, none⟩) (gb_setCell (p := ⟨wa.heap.size, 0, none⟩) HG1.out (.inr (Nat.le_refl _)) _) (.inr (Nat.le_refl _)) _
       have hbz : wz.heap[wa.heap.size]? = some (.cells #[.int .i64 k.1, .string k.2] 89 (0, 0)) := by rw [hwz]; exact blk_set (blk_set HBX.out 0 (.int .i64 k.1)) 1 (.string k.2)
       rw [← hwz]
       have b0 : wz.cell? ⟨wa.heap.size, 0, none⟩ = some (.int .i64 k.1) := by rw [blk_cell hbz]; rfl
       have b1 : wz.cell? ⟨wa.heap.size, 1, none⟩ = some (.string k.2) := by rw [blk_cell hbz]; rfl
       obtain ⟨x, mb, tr, hI⟩ := HI.out.gb hgz
       have c5 : wz.cell? ⟨g, 5, none⟩ = some (.map (some mb)) := by rw [blk_cell hI.col.blk]; rfl
       obtain ⟨y, hy⟩ : ∃ y, y = (aget tr k).getD (.slice none 0 0, []) := ⟨_, rfl⟩
       have hyl : y.2 = places es k := by
         rw [hy, ← hI.pl.get k, trL_get]
         cases aget tr k <;> rfl
       have hyo : wz.ownsRow base 3 1 y.1 y.2.length (nts y.2) := by
         rw [hy]
         cases e : aget tr k with
         | none => exact World.ownsRow_nil wz base 3 1
         | some q => exact hI.rows (k, q) (aget_mem e)
       have hlk := MapK.look key_run (w := wz.drew) hI.map Try.underlying75 (z := .slice none 0 0) (by kernel_rfl) k false
       have hyv : ((aget (trV tr) k).map encP.ev).getD (.slice none 0 0) = y.1 := by rw [hy, trV_get]; cases aget tr k <;> rfl
       rw [hyv] at hlk
       rw [hyl] at hyo
       obtain ⟨Ay, cy, hye, _, _, hry⟩ := own_form2 hyo
       rw [hye] at hlk
       have HLK : (Instr.lookup 75 (.map (some mb)) (.agg #[.int .i64 k.1, .string k.2]) false).run Try.prog wz.drew = .ok (.slice Ay (places es k).length cy) wz.drew := hlk
       have HCL := hide (cloneN_any Ay cy wz.heap.size (places es k) wz.drew hry (Nat.le_refl _) (by have := HES.out; unfold places; exact Nat.le_trans (List.length_filter_le _ _) (by simp; omega)))
       have HGZ := hide (gb_trans HGA.out hgz (.inl rfl))
       clear hwz hgz hbz hI hy hyl hyo hlk hyv hye hry
       go_wp2_with fail
       go_still_tail 6, (by kernel_rfl)
       go_wp2_with fail
       refine HCL.out.mono ?_
       rintro e w5 ⟨A5, c5', rfl, _, ho5, hg5⟩
       have HO5 := hide ho5
       have HG5 := hide (show w.grownBy w5 none from gb_trans HGZ.out (show wz.grownBy w5 none from ⟨hg5.os, hg5.tape, hg5.output, hg5.size, hg5.block⟩) (.inl rfl))
       have HAB := hide (show ∀ ad, A5 = some ad → places es k ≠ [] → w.heap.size ≤ ad.block from fun ad ha _ => by subst ha; exact Nat.le_trans HGZ.out.size (own_lt ho5 (g := ad.block) rfl).2)
       clear ho5 hg5
       go_wp2_with fail
       go_ret2
       exact ⟨A5, c5', rfl, Rd.of_own HO5.out, HG5.out, HAB.out⟩)
end Go.Proofs.Ytfdckhnhancbdaa
