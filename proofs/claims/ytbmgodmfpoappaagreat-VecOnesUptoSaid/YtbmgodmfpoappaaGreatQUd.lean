/-
  vec.mapped of toInt and of toDec.
-/
import Derived.Test.YtbmgodmfpoappaaGreatQKu
import Derived.Test.YtbmgodmfpoappaaGreatQOa
namespace Go.Proofs.YtbmgodmfpoappaaGreat
open Go.RowKit
attribute [local go_sem ↓] Go.wp_at_zero Go.wp_at_succ
def decW (n : Int) : Int := (decI n).getD 0
set_option maxHeartbeats 8000000 in
set_option maxRecDepth 100000 in
theorem mapped_toInt (t : Int) (ht0 : -100 ≤ t ∧ t ≤ 100) (v : Vl) (w : World) (B : Nat) (nA : Option Addr) (nc : Nat) (sA : Option Addr) (sc : Nat) (lA : Option Addr) (lc : Nat) (hI : ∀ x ∈ v.n, I64 x) (ht : v.tot ≤ 1200000000) (hB : B ≤ w.heap.size) (h : VB w B v nA nc sA sc lA lc) :
  Calls Tryz.prog 28 #[.agg #[.int .i64 v.t, .slice nA v.n.length nc, .slice sA v.s.length sc, .slice lA v.l.length lc], .int .i64 t, .func (.func 73) #[] #[]] w (NewE (.mk (likeT v.t t) (v.n.map toIntW) [] []) w) := by
 obtain ⟨l1, l2, l3, l4⟩ := Vl.lens v ht
 obtain ⟨wa, hwa⟩ : ∃ wa, wa = (w.alloc (.cells #[.int .i64 v.t, .slice nA v.n.length nc, .slice sA v.s.length sc, .slice lA v.l.length lc] 26)).alloc (.cells #[.int .i64 0, .slice none 0 0, .slice none 0 0, .slice none 0 0] 26) := ⟨_, rfl⟩
 have bx : wa.heap[w.heap.size]? = some (.cells #[.int .i64 v.t, .slice nA v.n.length nc, .slice sA v.s.length sc, .slice lA v.l.length lc] 26 (0, 0)) := by rw [hwa]; exact (Below.heap_alloc _ _ _ (by rw [World.size_alloc]; omega)).trans (heap_alloc_new w _)
 have bz : wa.heap[w.heap.size + 1]? = some (.cells #[.int .i64 0, .slice none 0 0, .slice none 0 0, .slice none 0 0] 26 (0, 0)) := by rw [hwa]; have := heap_alloc_new (w.alloc (.cells #[.int .i64 v.t, .slice nA v.n.length nc, .slice sA v.s.length sc, .slice lA v.l.length lc] 26)) (.cells #[.int .i64 0, .slice none 0 0, .slice none 0 0, .slice none 0 0] 26); rwa [World.size_alloc] at this
 have HBX := hide bx
 have HBZ := hide bz
 have HSZ := hide (show wa.heap.size = w.heap.size + 2 by rw [hwa]; simp)
 have HG := hide (show w.grownBy wa none by rw [hwa]; exact gb_alloc (gb_alloc (gb_refl w none) _) _)
 have HWE := hide hwa
 obtain ⟨c0, c1, c2, c3⟩ : C4 wa w.heap.size 0 (.int .i64 v.t) (.slice nA v.n.length nc) (.slice sA v.s.length sc) (.slice lA v.l.length lc) := c4k bx
 obtain ⟨i1, hi1, hiz, his, hib⟩ := info_parts Tryz.info64
 obtain ⟨w0, hmk, hown, hg0⟩ := run_make_full (P := Tryz.prog) wa wa.heap.size 22 2 i1 (.int .i64 0) 1 Tryz.underlying22 hi1 hiz his .i64 .i64 v.n.length (by rw [hib]; omega) (by unfold maxLen; omega) (Nat.le_refl _)
 rw [show (madeCells (Value.int .i64 0).cells (v.n.length * 1)).toList = List.replicate v.n.length (.int .i64 0) by rw [Nat.mul_one]; exact toList_madeCells_one _ v.n.length] at hown
 have HOWN := hide hown
 have HG0 := hide hg0
 have HL := hide l1
 have HN := hide h.n
 have HBB := hide hB
 have HT0 := hide ht0
 have HI := hide hI
 obtain ⟨rl, hrl⟩ : ∃ rl, rl = v.n.map toIntW := ⟨_, rfl⟩
 have HRL := hide hrl
 rw [← hrl]
 clear hown hg0 bx bz hwa h hB ht l1 l2 l3 l4 hi1 hiz his hib ht0 hrl hI
 go_enter Tryz.func28, Tryz.ntmps28
 go_upto_region 1 with fail
 rw [← HWE.out]
 go_upto_region 2 with fail
 clear c0 c1 c2 c3 hmk
 obtain ⟨c0, c1, c2, c3⟩ := c4k (blk_keep HBX.out HG0.out (by simp))
 go_wp2_with fail
 clear c0 c1 c2 c3
 go_loopw [20] (fun i wr => ∃ j : Nat, i = .int .i64 (j : Int) ∧ j ≤ v.n.length ∧
  wr.ownsRow wa.heap.size 2 1 (.slice (some ⟨wa.heap.size, 0, none⟩) v.n.length v.n.length) v.n.length (i64s ((v.n.take j).map toIntW) ++ List.replicate (v.n.length - j) (.int .i64 0)) ∧ wa.grownBy wr none) (fun i _ => v.n.length - (intOf i).toNat)
 case atStart => exact ⟨0, rfl, Nat.zero_le _, by simpa [i64s] using HOWN.out, HG0.out⟩
 case round =>
  obtain ⟨j, rfl, hj, how, hgr⟩ := hrel
  by_cases hlt : j < v.n.length
  ·have hlt1 : (j : Int) < (v.n.length : Int) := by omega
   have h6 : IntKind.i64.wrap ((j : Int) + 1) = ((j + 1 : Nat) : Int) := by rw [IntKind.wrap_i64]; have := HL.out; omega
   obtain ⟨a, ha, _, hcp0⟩ := HN.out.i64 hlt
   subst ha
   obtain ⟨p, hpe⟩ : ∃ p, p = v.n[j] := ⟨_, rfl⟩
   rw [← hpe] at hcp0
   have hcp := cell_gb hcp0 (gb_trans HG.out hgr (.inl rfl))
   have HTK := hide (show (v.n.take (j + 1)).map toIntW = (v.n.take j).map toIntW ++ [toIntW p] by rw [List.take_succ_eq_append_getElem hlt, List.map_append, hpe]; rfl)
   have hlen : ((v.n.take j).map toIntW).length = j := by rw [List.length_map, List.length_take]; omega
   have HLEN := hide hlen
   have HO5 := hide how
   have HGR := hide hgr
   have HLT := hide hlt
   have hil : (i64s ((v.n.take j).map toIntW)).length = j := by unfold i64s; rw [List.length_map]; exact hlen
   have HIL := hide hil
   have HLT2 := hide (show 0 < v.n.length - j by omega)
   have HFN := hide (toInt_any p (HI.out p (by rw [hpe]; exact List.getElem_mem hlt)) wr)
   generalize toIntW p = gp at *
   clear how hgr hlt hj hlen hcp0 hpe hil
   go_wp2_with (go_at_call 73; refine HFN.out.mono ?_; rintro e w1 ⟨rfl, hg1⟩; have HGR1 := hide (gb_trans HGR.out hg1 (.inl rfl)); have HO6 := hide (HO5.out.kept hg1 (by cases (Value.slice (some ⟨wa.heap.size, 0, none⟩) v.n.length v.n.length).ownBlock <;> simp)); have c5 := HO6.out.cellAt j (by have := HLT.out; omega); rw [List.getElem?_append_right (by rw [HIL.out]; exact Nat.le_refl _), HIL.out, Nat.sub_self, List.getElem?_replicate, if_pos HLT2.out] at c5; have z5 := HO6.out.frozenAt j; clear hg1)
   go_roundw
   case rel =>
    have hlt := HLT.out
    refine ⟨j + 1, by go_num, by omega, ?_, gb_setCell HGR1.out (.inr (Nat.le_refl _)) _⟩
    have h1 := (HO6.out.stored j (.int .i64 gp)).1
    obtain ⟨k, hk⟩ : ∃ k, v.n.length - j = k + 1 := ⟨v.n.length - j - 1, by omega⟩
    rw [hk] at h1
    have h2 := i64s_set_mid ((v.n.take j).map toIntW) gp k
    rw [HLEN.out] at h2
    rw [h2] at h1
    rw [show v.n.length - (j + 1) = k by omega, HTK.out]
    exact h1
   case measure =>
    have hlt := HLT.out
    simp [intOf]
    omega
  ·have hlt1 : ¬ (j : Int) < (v.n.length : Int) := by omega
   have hjl : j = v.n.length := by omega
   have hr9 : (v.n.take j).map toIntW = rl := by rw [HRL.out, hjl, List.take_length]
   have hrn : rl.length = v.n.length := by rw [HRL.out, List.length_map]
   have hoq : wr.ownsRow wa.heap.size 2 1 (.slice (some ⟨wa.heap.size, 0, none⟩) rl.length rl.length) rl.length (i64s rl) := by rw [hr9, hjl, Nat.sub_self] at how; rw [hrn]; simpa using how
   have HO := hide hoq
   have HRN := hide hrn
   have HGR := hide hgr
   clear hgr how hoq hjl hlt hj hr9
   obtain ⟨c0, c1, c2, c3⟩ := c4k (blk_keep HBX.out HGR.out (by simp))
   go_wp2_with (go_at_call 68; refine (like_any v.t t _ _ _ _ HT0.out ⟨some ⟨wa.heap.size, 0, none⟩, v.n.length, v.n.length, rfl⟩ _).mono ?_; rintro e w2 ⟨rfl, hg2⟩; have HG2 := hide (gb_trans HGR.out hg2 (.inl rfl)); have HO2 := hide (HO.out.kept hg2 (by cases (Value.slice (some ⟨wa.heap.size, 0, none⟩) rl.length rl.length).ownBlock <;> simp)); clear hg2; have hrr := blk_keep HBZ.out HG2.out (by simp); have HRR := hide hrr; obtain ⟨z0, z1, z2, z3, y0, y1, y2, y3⟩ := zz4 hrr; clear hrr)
   obtain ⟨f, ho, hnd, hf⟩ := VOw.row64 (t := likeT v.t t) (Nat.le_refl _) HO2.out
   have HFIN := NewE.fin (x := .mk (likeT v.t t) rl [] []) (wa := wa) (g := w.heap.size + 1) ho ⟨hnd, fun b hb => ⟨hf b hb, VOw.lt _ _ _ ho b hb⟩⟩ HG.out HG2.out (Nat.le_succ _) (by have := HSZ.out; omega)
   obtain ⟨m0, m1, m2, m3⟩ := C4.put HRR.out (.int .i64 (likeT v.t t)) (.slice (some ⟨wa.heap.size, 0, none⟩) rl.length rl.length) (.slice none 0 0) (.slice none 0 0)
   simp only [put4, Nat.zero_add] at m0 m1 m2 m3
   have hrn := HRN.out
   rw [hrn] at m0 m1 m2 m3
   refine bodyPost_ret (v := .tuple #[.agg #[.int .i64 (likeT v.t t), .slice (some ⟨wa.heap.size, 0, none⟩) v.n.length v.n.length, .slice none 0 0, .slice none 0 0], .int .i64 0]) (by simp [results, Tryz.results28, go_sem, m0, m1, m2, m3]) rfl ?_
   rw [← hrn]
   exact HFIN
set_option maxHeartbeats 8000000 in
set_option maxRecDepth 100000 in
theorem mapped_toDec (t : Int) (ht0 : -100 ≤ t ∧ t ≤ 100) (v : Vl) (w : World) (B : Nat) (nA : Option Addr) (nc : Nat) (sA : Option Addr) (sc : Nat) (lA : Option Addr) (lc : Nat) (hI : ∀ x ∈ v.n, I64 x ∧ decI x = some (decW x)) (ht : v.tot ≤ 1200000000) (hB : B ≤ w.heap.size) (h : VB w B v nA nc sA sc lA lc) :
  Calls Tryz.prog 28 #[.agg #[.int .i64 v.t, .slice nA v.n.length nc, .slice sA v.s.length sc, .slice lA v.l.length lc], .int .i64 t, .func (.func 74) #[] #[]] w (NewE (.mk (likeT v.t t) (v.n.map decW) [] []) w) := by
 obtain ⟨l1, l2, l3, l4⟩ := Vl.lens v ht
 obtain ⟨wa, hwa⟩ : ∃ wa, wa = (w.alloc (.cells #[.int .i64 v.t, .slice nA v.n.length nc, .slice sA v.s.length sc, .slice lA v.l.length lc] 26)).alloc (.cells #[.int .i64 0, .slice none 0 0, .slice none 0 0, .slice none 0 0] 26) := ⟨_, rfl⟩
 have bx : wa.heap[w.heap.size]? = some (.cells #[.int .i64 v.t, .slice nA v.n.length nc, .slice sA v.s.length sc, .slice lA v.l.length lc] 26 (0, 0)) := by rw [hwa]; exact (Below.heap_alloc _ _ _ (by rw [World.size_alloc]; omega)).trans (heap_alloc_new w _)
 have bz : wa.heap[w.heap.size + 1]? = some (.cells #[.int .i64 0, .slice none 0 0, .slice none 0 0, .slice none 0 0] 26 (0, 0)) := by rw [hwa]; have := heap_alloc_new (w.alloc (.cells #[.int .i64 v.t, .slice nA v.n.length nc, .slice sA v.s.length sc, .slice lA v.l.length lc] 26)) (.cells #[.int .i64 0, .slice none 0 0, .slice none 0 0, .slice none 0 0] 26); rwa [World.size_alloc] at this
 have HBX := hide bx
 have HBZ := hide bz
 have HSZ := hide (show wa.heap.size = w.heap.size + 2 by rw [hwa]; simp)
 have HG := hide (show w.grownBy wa none by rw [hwa]; exact gb_alloc (gb_alloc (gb_refl w none) _) _)
 have HWE := hide hwa
 obtain ⟨c0, c1, c2, c3⟩ : C4 wa w.heap.size 0 (.int .i64 v.t) (.slice nA v.n.length nc) (.slice sA v.s.length sc) (.slice lA v.l.length lc) := c4k bx
 obtain ⟨i1, hi1, hiz, his, hib⟩ := info_parts Tryz.info64
 obtain ⟨w0, hmk, hown, hg0⟩ := run_make_full (P := Tryz.prog) wa wa.heap.size 22 2 i1 (.int .i64 0) 1 Tryz.underlying22 hi1 hiz his .i64 .i64 v.n.length (by rw [hib]; omega) (by unfold maxLen; omega) (Nat.le_refl _)
 rw [show (madeCells (Value.int .i64 0).cells (v.n.length * 1)).toList = List.replicate v.n.length (.int .i64 0) by rw [Nat.mul_one]; exact toList_madeCells_one _ v.n.length] at hown
 have HOWN := hide hown
 have HG0 := hide hg0
 have HL := hide l1
 have HN := hide h.n
 have HBB := hide hB
 have HT0 := hide ht0
 have HI := hide hI
 obtain ⟨rl, hrl⟩ : ∃ rl, rl = v.n.map decW := ⟨_, rfl⟩
 have HRL := hide hrl
 rw [← hrl]
 clear hown hg0 bx bz hwa h hB ht l1 l2 l3 l4 hi1 hiz his hib ht0 hrl hI
 go_enter Tryz.func28, Tryz.ntmps28
 go_upto_region 1 with fail
 rw [← HWE.out]
 go_upto_region 2 with fail
 clear c0 c1 c2 c3 hmk
 obtain ⟨c0, c1, c2, c3⟩ := c4k (blk_keep HBX.out HG0.out (by simp))
 go_wp2_with fail
 clear c0 c1 c2 c3
 go_loopw [20] (fun i wr => ∃ j : Nat, i = .int .i64 (j : Int) ∧ j ≤ v.n.length ∧
  wr.ownsRow wa.heap.size 2 1 (.slice (some ⟨wa.heap.size, 0, none⟩) v.n.length v.n.length) v.n.length (i64s ((v.n.take j).map decW) ++ List.replicate (v.n.length - j) (.int .i64 0)) ∧ wa.grownBy wr none) (fun i _ => v.n.length - (intOf i).toNat)
 case atStart => exact ⟨0, rfl, Nat.zero_le _, by simpa [i64s] using HOWN.out, HG0.out⟩
 case round =>
  obtain ⟨j, rfl, hj, how, hgr⟩ := hrel
  by_cases hlt : j < v.n.length
  ·have hlt1 : (j : Int) < (v.n.length : Int) := by omega
   have h6 : IntKind.i64.wrap ((j : Int) + 1) = ((j + 1 : Nat) : Int) := by rw [IntKind.wrap_i64]; have := HL.out; omega
   obtain ⟨a, ha, _, hcp0⟩ := HN.out.i64 hlt
   subst ha
   obtain ⟨p, hpe⟩ : ∃ p, p = v.n[j] := ⟨_, rfl⟩
   rw [← hpe] at hcp0
   have hcp := cell_gb hcp0 (gb_trans HG.out hgr (.inl rfl))
   have HTK := hide (show (v.n.take (j + 1)).map decW = (v.n.take j).map decW ++ [decW p] by rw [List.take_succ_eq_append_getElem hlt, List.map_append, hpe]; rfl)
   have hlen : ((v.n.take j).map decW).length = j := by rw [List.length_map, List.length_take]; omega
   have HLEN := hide hlen
   have HO5 := hide how
   have HGR := hide hgr
   have HLT := hide hlt
   have hil : (i64s ((v.n.take j).map decW)).length = j := by unfold i64s; rw [List.length_map]; exact hlen
   have HIL := hide hil
   have HLT2 := hide (show 0 < v.n.length - j by omega)
   have HFN := hide (show Calls Tryz.prog 74 #[.int .i64 p] wr fun e w' => e = .returned (.tuple #[.int .i64 (decW p), .bool true]) ∧ wr.grownBy w' none by
    have hp := HI.out p (by rw [hpe]; exact List.getElem_mem hlt)
    have := toDec_any p hp.1 wr
    rwa [hp.2] at this)
   generalize decW p = gp at *
   clear how hgr hlt hj hlen hcp0 hpe hil
   go_wp2_with (go_at_call 74; refine HFN.out.mono ?_; rintro e w1 ⟨rfl, hg1⟩; have HGR1 := hide (gb_trans HGR.out hg1 (.inl rfl)); have HO6 := hide (HO5.out.kept hg1 (by cases (Value.slice (some ⟨wa.heap.size, 0, none⟩) v.n.length v.n.length).ownBlock <;> simp)); have c5 := HO6.out.cellAt j (by have := HLT.out; omega); rw [List.getElem?_append_right (by rw [HIL.out]; exact Nat.le_refl _), HIL.out, Nat.sub_self, List.getElem?_replicate, if_pos HLT2.out] at c5; have z5 := HO6.out.frozenAt j; clear hg1)
   go_roundw
   case rel =>
    have hlt := HLT.out
    refine ⟨j + 1, by go_num, by omega, ?_, gb_setCell HGR1.out (.inr (Nat.le_refl _)) _⟩
    have h1 := (HO6.out.stored j (.int .i64 gp)).1
    obtain ⟨k, hk⟩ : ∃ k, v.n.length - j = k + 1 := ⟨v.n.length - j - 1, by omega⟩
    rw [hk] at h1
    have h2 := i64s_set_mid ((v.n.take j).map decW) gp k
    rw [HLEN.out] at h2
    rw [h2] at h1
    rw [show v.n.length - (j + 1) = k by omega, HTK.out]
    exact h1
   case measure =>
    have hlt := HLT.out
    simp [intOf]
    omega
  ·have hlt1 : ¬ (j : Int) < (v.n.length : Int) := by omega
   have hjl : j = v.n.length := by omega
   have hr9 : (v.n.take j).map decW = rl := by rw [HRL.out, hjl, List.take_length]
   have hrn : rl.length = v.n.length := by rw [HRL.out, List.length_map]
   have hoq : wr.ownsRow wa.heap.size 2 1 (.slice (some ⟨wa.heap.size, 0, none⟩) rl.length rl.length) rl.length (i64s rl) := by rw [hr9, hjl, Nat.sub_self] at how; rw [hrn]; simpa using how
   have HO := hide hoq
   have HRN := hide hrn
   have HGR := hide hgr
   clear hgr how hoq hjl hlt hj hr9
   obtain ⟨c0, c1, c2, c3⟩ := c4k (blk_keep HBX.out HGR.out (by simp))
   go_wp2_with (go_at_call 68; refine (like_any v.t t _ _ _ _ HT0.out ⟨some ⟨wa.heap.size, 0, none⟩, v.n.length, v.n.length, rfl⟩ _).mono ?_; rintro e w2 ⟨rfl, hg2⟩; have HG2 := hide (gb_trans HGR.out hg2 (.inl rfl)); have HO2 := hide (HO.out.kept hg2 (by cases (Value.slice (some ⟨wa.heap.size, 0, none⟩) rl.length rl.length).ownBlock <;> simp)); clear hg2; have hrr := blk_keep HBZ.out HG2.out (by simp); have HRR := hide hrr; obtain ⟨z0, z1, z2, z3, y0, y1, y2, y3⟩ := zz4 hrr; clear hrr)
   obtain ⟨f, ho, hnd, hf⟩ := VOw.row64 (t := likeT v.t t) (Nat.le_refl _) HO2.out
   have HFIN := NewE.fin (x := .mk (likeT v.t t) rl [] []) (wa := wa) (g := w.heap.size + 1) ho ⟨hnd, fun b hb => ⟨hf b hb, VOw.lt _ _ _ ho b hb⟩⟩ HG.out HG2.out (Nat.le_succ _) (by have := HSZ.out; omega)
   obtain ⟨m0, m1, m2, m3⟩ := C4.put HRR.out (.int .i64 (likeT v.t t)) (.slice (some ⟨wa.heap.size, 0, none⟩) rl.length rl.length) (.slice none 0 0) (.slice none 0 0)
   simp only [put4, Nat.zero_add] at m0 m1 m2 m3
   have hrn := HRN.out
   rw [hrn] at m0 m1 m2 m3
   refine bodyPost_ret (v := .tuple #[.agg #[.int .i64 (likeT v.t t), .slice (some ⟨wa.heap.size, 0, none⟩) v.n.length v.n.length, .slice none 0 0, .slice none 0 0], .int .i64 0]) (by simp [results, Tryz.results28, go_sem, m0, m1, m2, m3]) rfl ?_
   rw [← hrn]
   exact HFIN
set_option maxHeartbeats 8000000 in
set_option maxRecDepth 100000 in
theorem mapped_toDec_no (t : Int) (ht0 : -100 ≤ t ∧ t ≤ 100) (v : Vl) (w : World) (B : Nat) (nA : Option Addr) (nc : Nat) (sA : Option Addr) (sc : Nat) (lA : Option Addr) (lc : Nat) (hI : ∀ x ∈ v.n, I64 x) (hno : ∃ x ∈ v.n, decI x = none) (ht : v.tot ≤ 1200000000) (hB : B ≤ w.heap.size) (h : VB w B v nA nc sA sc lA lc) :
  Calls Tryz.prog 28 #[.agg #[.int .i64 v.t, .slice nA v.n.length nc, .slice sA v.s.length sc, .slice lA v.l.length lc], .int .i64 t, .func (.func 74) #[] #[]] w (ErrV 70 w) := by
 obtain ⟨l1, l2, l3, l4⟩ := Vl.lens v ht
 obtain ⟨wa, hwa⟩ : ∃ wa, wa = (w.alloc (.cells #[.int .i64 v.t, .slice nA v.n.length nc, .slice sA v.s.length sc, .slice lA v.l.length lc] 26)).alloc (.cells #[.int .i64 0, .slice none 0 0, .slice none 0 0, .slice none 0 0] 26) := ⟨_, rfl⟩
 have bx : wa.heap[w.heap.size]? = some (.cells #[.int .i64 v.t, .slice nA v.n.length nc, .slice sA v.s.length sc, .slice lA v.l.length lc] 26 (0, 0)) := by rw [hwa]; exact (Below.heap_alloc _ _ _ (by rw [World.size_alloc]; omega)).trans (heap_alloc_new w _)
 have bz : wa.heap[w.heap.size + 1]? = some (.cells #[.int .i64 0, .slice none 0 0, .slice none 0 0, .slice none 0 0] 26 (0, 0)) := by rw [hwa]; have := heap_alloc_new (w.alloc (.cells #[.int .i64 v.t, .slice nA v.n.length nc, .slice sA v.s.length sc, .slice lA v.l.length lc] 26)) (.cells #[.int .i64 0, .slice none 0 0, .slice none 0 0, .slice none 0 0] 26); rwa [World.size_alloc] at this
 have HBX := hide bx
 have HBZ := hide bz
 have HSZ := hide (show wa.heap.size = w.heap.size + 2 by rw [hwa]; simp)
 have HG := hide (show w.grownBy wa none by rw [hwa]; exact gb_alloc (gb_alloc (gb_refl w none) _) _)
 have HWE := hide hwa
 obtain ⟨c0, c1, c2, c3⟩ : C4 wa w.heap.size 0 (.int .i64 v.t) (.slice nA v.n.length nc) (.slice sA v.s.length sc) (.slice lA v.l.length lc) := c4k bx
 obtain ⟨i1, hi1, hiz, his, hib⟩ := info_parts Tryz.info64
 obtain ⟨w0, hmk, hown, hg0⟩ := run_make_full (P := Tryz.prog) wa wa.heap.size 22 2 i1 (.int .i64 0) 1 Tryz.underlying22 hi1 hiz his .i64 .i64 v.n.length (by rw [hib]; omega) (by unfold maxLen; omega) (Nat.le_refl _)
 rw [show (madeCells (Value.int .i64 0).cells (v.n.length * 1)).toList = List.replicate v.n.length (.int .i64 0) by rw [Nat.mul_one]; exact toList_madeCells_one _ v.n.length] at hown
 have HOWN := hide hown
 have HG0 := hide hg0
 have HL := hide l1
 have HN := hide h.n
 have HBB := hide hB
 have HT0 := hide ht0
 have HI := hide hI
 have HNO := hide hno
 clear hown hg0 bx bz hwa h hB ht l1 l2 l3 l4 hi1 hiz his hib ht0 hI hno
 go_enter Tryz.func28, Tryz.ntmps28
 go_upto_region 1 with fail
 rw [← HWE.out]
 go_upto_region 2 with fail
 clear c0 c1 c2 c3 hmk
 obtain ⟨c0, c1, c2, c3⟩ := c4k (blk_keep HBX.out HG0.out (by simp))
 go_wp2_with fail
 clear c0 c1 c2 c3
 go_loopw [20] (fun i wr => ∃ j : Nat, i = .int .i64 (j : Int) ∧ j ≤ v.n.length ∧ Hid (∀ x ∈ v.n.take j, decI x ≠ none) ∧
  wr.ownsRow wa.heap.size 2 1 (.slice (some ⟨wa.heap.size, 0, none⟩) v.n.length v.n.length) v.n.length (i64s ((v.n.take j).map decW) ++ List.replicate (v.n.length - j) (.int .i64 0)) ∧ wa.grownBy wr none) (fun i _ => v.n.length - (intOf i).toNat)
 case atStart => exact ⟨0, rfl, Nat.zero_le _, hide (by simp), by simpa [i64s] using HOWN.out, HG0.out⟩
 case round =>
  obtain ⟨j, rfl, hj, HAL, how, hgr⟩ := hrel
  by_cases hlt : j < v.n.length
  ·have hlt1 : (j : Int) < (v.n.length : Int) := by omega
   have h6 : IntKind.i64.wrap ((j : Int) + 1) = ((j + 1 : Nat) : Int) := by rw [IntKind.wrap_i64]; have := HL.out; omega
   obtain ⟨a, ha, _, hcp0⟩ := HN.out.i64 hlt
   subst ha
   obtain ⟨p, hpe⟩ : ∃ p, p = v.n[j] := ⟨_, rfl⟩
   rw [← hpe] at hcp0
   have hcp := cell_gb hcp0 (gb_trans HG.out hgr (.inl rfl))
   have HTK := hide (show (v.n.take (j + 1)).map decW = (v.n.take j).map decW ++ [decW p] by rw [List.take_succ_eq_append_getElem hlt, List.map_append, hpe]; rfl)
   have hlen : ((v.n.take j).map decW).length = j := by rw [List.length_map, List.length_take]; omega
   have HLEN := hide hlen
   have HO5 := hide how
   have HGR := hide hgr
   have HLT := hide hlt
   have hil : (i64s ((v.n.take j).map decW)).length = j := by unfold i64s; rw [List.length_map]; exact hlen
   have HIL := hide hil
   have HLT2 := hide (show 0 < v.n.length - j by omega)
   have hfn := toDec_any p (HI.out p (by rw [hpe]; exact List.getElem_mem hlt)) wr
   have htk2 : v.n.take (j + 1) = v.n.take j ++ [p] := by rw [List.take_succ_eq_append_getElem hlt, hpe]
   cases hdp : decI p with
   | none =>
    rw [hdp] at hfn
    have HFN := hide (show Calls Tryz.prog 74 #[.int .i64 p] wr fun e w' => e = .returned (.tuple #[.int .i64 0, .bool false]) ∧ wr.grownBy w' none from hfn)
    clear how hgr hlt hj hlen hcp0 hpe hil hfn hdp htk2 HTK
    go_wp2_with (go_at_call 74; refine HFN.out.mono ?_; rintro e w1 ⟨rfl, hg1⟩; have HGR1 := hide (gb_trans HGR.out hg1 (.inl rfl)); clear hg1; have hrr := blk_keep HBZ.out HGR1.out (by simp); have HRR := hide hrr; obtain ⟨z0, z1, z2, z3, y0, y1, y2, y3⟩ := zz4 hrr; clear hrr)
    obtain ⟨m0, m1, m2, m3⟩ := C4.put HRR.out (.int .i64 0) (.slice none 0 0) (.slice none 0 0) (.slice none 0 0)
    simp only [put4, Nat.zero_add] at m0 m1 m2 m3
    refine bodyPost_ret (v := .tuple #[.agg #[.int .i64 0, .slice none 0 0, .slice none 0 0, .slice none 0 0], .int .i64 70]) (by simp [results, Tryz.results28, go_sem, m0, m1, m2, m3]) rfl ⟨rfl, ?_⟩
    exact put4_to (gb_trans HG.out HGR1.out (.inl rfl)) (Nat.le_succ _)
   | some q9 =>
    rw [hdp] at hfn
    have hq9 : decW p = q9 := by unfold decW; rw [hdp]; rfl
    have HFN := hide (show Calls Tryz.prog 74 #[.int .i64 p] wr fun e w' => e = .returned (.tuple #[.int .i64 (decW p), .bool true]) ∧ wr.grownBy w' none by rw [hq9]; exact hfn)
    have HAL2 := hide (show ∀ x ∈ v.n.take (j + 1), decI x ≠ none by
     intro x hx
     rw [htk2] at hx
     rcases List.mem_append.1 hx with h1 | h1
     ·exact HAL.out x h1
     ·rw [List.mem_singleton.1 h1, hdp]; simp)
    clear hfn hdp htk2 hq9
    generalize decW p = gp at *
    clear how hgr hlt hj hlen hcp0 hpe hil
    go_wp2_with (go_at_call 74; refine HFN.out.mono ?_; rintro e w1 ⟨rfl, hg1⟩; have HGR1 := hide (gb_trans HGR.out hg1 (.inl rfl)); have HO6 := hide (HO5.out.kept hg1 (by cases (Value.slice (some ⟨wa.heap.size, 0, none⟩) v.n.length v.n.length).ownBlock <;> simp)); have c5 := HO6.out.cellAt j (by have := HLT.out; omega); rw [List.getElem?_append_right (by rw [HIL.out]; exact Nat.le_refl _), HIL.out, Nat.sub_self, List.getElem?_replicate, if_pos HLT2.out] at c5; have z5 := HO6.out.frozenAt j; clear hg1)
    go_roundw
    case rel =>
     have hlt := HLT.out
     refine ⟨j + 1, by go_num, by omega, HAL2, ?_, gb_setCell HGR1.out (.inr (Nat.le_refl _)) _⟩
     have h1 := (HO6.out.stored j (.int .i64 gp)).1
     obtain ⟨k, hk⟩ : ∃ k, v.n.length - j = k + 1 := ⟨v.n.length - j - 1, by omega⟩
     rw [hk] at h1
     have h2 := i64s_set_mid ((v.n.take j).map decW) gp k
     rw [HLEN.out] at h2
     rw [h2] at h1
     rw [show v.n.length - (j + 1) = k by omega, HTK.out]
     exact h1
    case measure =>
     have hlt := HLT.out
     simp [intOf]
     omega
  ·exfalso
   obtain ⟨x, hx, hxn⟩ := HNO.out
   have hjl : j = v.n.length := by omega
   refine HAL.out x ?_ hxn
   rw [hjl, List.take_length]
   exact hx
end Go.Proofs.YtbmgodmfpoappaaGreat
