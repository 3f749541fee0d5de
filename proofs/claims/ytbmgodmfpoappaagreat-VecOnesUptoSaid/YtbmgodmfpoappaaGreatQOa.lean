/-
  vec.mapped, vec.Not, vec.Neg.
-/
import Derived.Test.YtbmgodmfpoappaaGreatQKg
import Derived.Test.YtbmgodmfpoappaaGreatQKe
import Derived.Test.YtbmgodmfpoappaaGreatQKd
namespace Go.Proofs.YtbmgodmfpoappaaGreat
open Go.RowKit
attribute [local go_sem ↓] Go.wp_at_zero Go.wp_at_succ
theorem VOw.row64 {w : World} {base : Nat} {t : Int} {l : List Int} {A : Option Addr} {c : Nat} (hlc : l.length ≤ c) (h : w.ownsRow base 2 1 (.slice A l.length c) l.length (i64s l)) :
  ∃ f, VOw w (.mk t l [] []) [.int .i64 t, .slice A l.length c, .slice none 0 0, .slice none 0 0] f ∧ f.Nodup ∧ ∀ b ∈ f, base ≤ b := by
 obtain ⟨f1, o1, b1⟩ := Own.of_row h
 refine ⟨f1, ⟨A, c, none, 0, none, 0, [], f1, [], [], [], rfl, ⟨hlc, Nat.le_refl _, Nat.le_refl _⟩, ⟨o1, .inl ⟨rfl, rfl⟩, .inl ⟨rfl, rfl⟩⟩, ⟨rfl, rfl⟩, by simp⟩, ?_, fun b hb => (b1 b hb).1⟩
 match f1, o1.len with
 | [], _ => simp
 | [x], _ => simp
def zeroI (n : Int) : Int := if n = 0 then 1 else 0
def negW (n : Int) : Int := IntKind.i64.wrap (-n)
theorem isZero_any (n : Int) (w : World) : Calls Tryz.prog 35 #[.int .i64 n] w fun e w' => e = .returned (.tuple #[.int .i64 (zeroI n), .bool true]) ∧ w = w' := by
 by_cases h : n = 0
 ·have HZ := hide (show zeroI n = 1 by unfold zeroI; rw [if_pos h])
  have e0 := int_beq_t h
  clear h
  go_enter Tryz.func35, Tryz.ntmps35
  go_wp2_with fail
  exact bodyPost_ret (v := .tuple #[.int .i64 1, .bool true]) (by simp [results, Tryz.results35, go_sem]) rfl ⟨by rw [HZ.out], rfl⟩
 ·have HZ := hide (show zeroI n = 0 by unfold zeroI; rw [if_neg h])
  have e0 := int_beq_f h
  clear h
  go_enter Tryz.func35, Tryz.ntmps35
  go_wp2_with fail
  exact bodyPost_ret (v := .tuple #[.int .i64 0, .bool true]) (by simp [results, Tryz.results35, go_sem]) rfl ⟨by rw [HZ.out], rfl⟩
theorem negative_any (n : Int) (w : World) : Calls Tryz.prog 29 #[.int .i64 n] w fun e w' => e = .returned (.tuple #[.int .i64 (negW n), .bool true]) ∧ w = w' := by
 obtain ⟨m, hm⟩ : ∃ m, m = IntKind.i64.wrap (-n) := ⟨_, rfl⟩
 have h6 : IntKind.i64.wrap (-n) = m := hm.symm
 have HM := hide (show negW n = m from h6)
 clear hm
 go_enter Tryz.func29, Tryz.ntmps29
 go_wp2_with fail
 exact bodyPost_ret (v := .tuple #[.int .i64 m, .bool true]) (by simp [results, Tryz.results29, go_sem]) rfl ⟨by rw [HM.out], rfl⟩
set_option maxHeartbeats 8000000 in
set_option maxRecDepth 100000 in
theorem mapped_isZero (t : Int) (ht0 : -100 ≤ t ∧ t ≤ 100) (v : Vl) (w : World) (B : Nat) (nA : Option Addr) (nc : Nat) (sA : Option Addr) (sc : Nat) (lA : Option Addr) (lc : Nat) (ht : v.tot ≤ 1200000000) (hB : B ≤ w.heap.size) (h : VB w B v nA nc sA sc lA lc) :
  Calls Tryz.prog 28 #[.agg #[.int .i64 v.t, .slice nA v.n.length nc, .slice sA v.s.length sc, .slice lA v.l.length lc], .int .i64 t, .func (.func 35) #[] #[]] w (NewE (.mk (likeT v.t t) (v.n.map zeroI) [] []) w) := by
 obtain ⟨l1, l2, l3, l4⟩ := Vl.lens v ht
 obtain ⟨wa, hwa⟩ : ∃ wa, wa = (w.alloc (.cells #[.int .i64 v.t, .slice nA v.n.length nc, .slice sA v.s.length sc, .slice lA v.l.length lc] 26)).alloc (.cells #[.int .i64 0, .slice none 0 0, .slice none 0 0, .slice none 0 0] 26) := ⟨_, rfl⟩
 have bx : wa.heap[w.heap.size]? = some (.cells #[.int .i64 v.t, .slice nA v.n.length nc, .slice sA v.s.length sc, .slice lA v.l.length lc] 26 (0, 0)) := by rw [hwa]; exact (Below.heap_alloc _ _ _ (by rw [World.size_alloc]; omega)).trans (heap_alloc_new w _)
 have bz : wa.heap[w.heap.size + 1]? = some (.cells #[.int .i64 0, .slice none 0 0, .slice none 0 0, .slice none 0 0] 26 (0, 0)) := by rw [hwa]; have := heap_alloc_new (w.alloc (.cells #[.int .i64 v.t, .slice nA v.n.length nc, .slice sA v.s.length sc, .slice lA v.l.length lc] 26)) (.cells #[.int .i64 0, .slice none 0 0, .slice none 0 0, .slice none 0 0] 26); rwa [World.size_alloc] at this
 have HBX := hide bx
 have HBZ := hide bz
 have HSZ := hide (show wa.heap.size = w.heap.size + 2 by rw [hwa]; simp)
 have HG := hide (show w.grownBy wa none by rw [hwa]; exact gb_alloc (gb_alloc (gb_refl w none) _) _)
 have HWE := hide hwa
 obtain ⟨c0, c1, c2, c3⟩ : C4 wa w.heap.size 0 (.int .i64 v.t) (.slice nA v.n.length nc) (.slice sA v.s.length sc) (.slice lA v.l.length lc) := c4k bx
 obtain ⟨i1, hi1, hiz, his, hib⟩ := info_parts Tryz.info64
 obtain ⟨w0, hmk, hown, hg0⟩ := run_make_full (P := Tryz.prog) wa wa.heap.size 22 2 i1 (.int .i64 0) 1 Tryz.underlying22 hi1 hiz his .i64 .i64 v.n.length (by rw [hib]; omega) (by unfold maxLen; omega) (Nat.le_refl _)
 rw [show (madeCells (Value.int .i64 0).cells (v.n.length * 1)).toList = List.replicate v.n.length (.int .i64 0) by rw [Nat.mul_one]; exact toList_madeCells_one _ v.n.length] at hown
 have HOWN := hide hown
 have HG0 := hide hg0
 have HL := hide l1
 have HN := hide h.n
 have HBB := hide hB
 have HT0 := hide ht0
 obtain ⟨rl, hrl⟩ : ∃ rl, rl = v.n.map zeroI := ⟨_, rfl⟩
 have HRL := hide hrl
 rw [← hrl]
 clear hown hg0 bx bz hwa h hB ht l1 l2 l3 l4 hi1 hiz his hib ht0 hrl
 go_enter Tryz.func28, Tryz.ntmps28
 go_upto_region 1 with fail
 rw [← HWE.out]
 go_upto_region 2 with fail
 clear c0 c1 c2 c3 hmk
 obtain ⟨c0, c1, c2, c3⟩ := c4k (blk_keep HBX.out HG0.out (by simp))
 go_wp2_with fail
 clear c0 c1 c2 c3
 go_loopw [20] (fun i wr => ∃ j : Nat, i = .int .i64 (j : Int) ∧ j ≤ v.n.length ∧
  wr.ownsRow wa.heap.size 2 1 (.slice (some ⟨wa.heap.size, 0, none⟩) v.n.length v.n.length) v.n.length (i64s ((v.n.take j).map zeroI) ++ List.replicate (v.n.length - j) (.int .i64 0)) ∧ wa.grownBy wr none) (fun i _ => v.n.length - (intOf i).toNat)
 case atStart => exact ⟨0, rfl, Nat.zero_le _, by simpa [i64s] using HOWN.out, HG0.out⟩
 case round =>
  obtain ⟨j, rfl, hj, how, hgr⟩ := hrel
  by_cases hlt : j < v.n.length
  ·have hlt1 : (j : Int) < (v.n.length : Int) := by omega
   have h6 : IntKind.i64.wrap ((j : Int) + 1) = ((j + 1 : Nat) : Int) := by rw [IntKind.wrap_i64]; have := HL.out; omega
   obtain ⟨a, ha, _, hcp0⟩ := HN.out.i64 hlt
   subst ha
   obtain ⟨p, hpe⟩ : ∃ p, p = v.n[j] := ⟨_, rfl⟩
   rw [← hpe] at hcp0
   have hcp := cell_gb hcp0 (gb_trans HG.out hgr (.inl rfl))
   have HTK := hide (show (v.n.take (j + 1)).map zeroI = (v.n.take j).map zeroI ++ [zeroI p] by rw [List.take_succ_eq_append_getElem hlt, List.map_append, hpe]; rfl)
   have hlen : ((v.n.take j).map zeroI).length = j := by rw [List.length_map, List.length_take]; omega
   have HLEN := hide hlen
   have HO5 := hide how
   have HGR := hide hgr
   have HLT := hide hlt
   have c5 := how.cellAt j (by omega)
   have hil : (i64s ((v.n.take j).map zeroI)).length = j := by unfold i64s; rw [List.length_map]; exact hlen
   rw [List.getElem?_append_right (by rw [hil]; exact Nat.le_refl _), hil, Nat.sub_self, List.getElem?_replicate, if_pos (by omega)] at c5
   have z5 := how.frozenAt j
   have HFN := hide (isZero_any p wr)
   generalize zeroI p = gp at *
   clear how hgr hlt hj hlen hcp0 hpe hil
   go_wp2_with (go_at_call 35; refine HFN.out.mono ?_; rintro e w1 ⟨rfl, rfl⟩)
   go_roundw
   case rel =>
    have hlt := HLT.out
    refine ⟨j + 1, by go_num, by omega, ?_, gb_setCell HGR.out (.inr (Nat.le_refl _)) _⟩
    have h1 := (HO5.out.stored j (.int .i64 gp)).1
    obtain ⟨k, hk⟩ : ∃ k, v.n.length - j = k + 1 := ⟨v.n.length - j - 1, by omega⟩
    rw [hk] at h1
    have h2 := i64s_set_mid ((v.n.take j).map zeroI) gp k
    rw [HLEN.out] at h2
    rw [h2] at h1
    rw [show v.n.length - (j + 1) = k by omega, HTK.out]
    exact h1
   case measure =>
    have hlt := HLT.out
    simp [intOf]
    omega
  ·have hlt1 : ¬ (j : Int) < (v.n.length : Int) := by omega
   have hjl : j = v.n.length := by omega
   have hr9 : (v.n.take j).map zeroI = rl := by rw [HRL.out, hjl, List.take_length]
   have hrn : rl.length = v.n.length := by rw [HRL.out, List.length_map]
   have hoq : wr.ownsRow wa.heap.size 2 1 (.slice (some ⟨wa.heap.size, 0, none⟩) rl.length rl.length) rl.length (i64s rl) := by rw [hr9, hjl, Nat.sub_self] at how; rw [hrn]; simpa using how
   have HO := hide hoq
   have HRN := hide hrn
   have HGR := hide hgr
   clear hgr how hoq hjl hlt hj hr9
   obtain ⟨c0, c1, c2, c3⟩ := c4k (blk_keep HBX.out HGR.out (by simp))
   go_wp2_with (go_at_call 68; refine (like_any v.t t _ _ _ _ HT0.out ⟨some ⟨wa.heap.size, 0, none⟩, v.n.length, v.n.length, rfl⟩ _).mono ?_; rintro e w2 ⟨rfl, hg2⟩; have HG2 := hide (gb_trans HGR.out hg2 (.inl rfl)); have HO2 := hide (HO.out.kept hg2 (by cases (Value.slice (some ⟨wa.heap.size, 0, none⟩) rl.length rl.length).ownBlock <;> simp)); clear hg2; have hrr := blk_keep HBZ.out HG2.out (by simp); have HRR := hide hrr; obtain ⟨z0, z1, z2, z3, y0, y1, y2, y3⟩ := zz4 hrr; clear hrr)
   obtain ⟨f, ho, hnd, hf⟩ := VOw.row64 (t := likeT v.t t) (Nat.le_refl _) HO2.out
   have HFIN := NewE.fin (x := .mk (likeT v.t t) rl [] []) (wa := wa) (g := w.heap.size + 1) ho ⟨hnd, fun b hb => ⟨hf b hb, VOw.lt _ _ _ ho b hb⟩⟩ HG.out HG2.out (Nat.le_succ _) (by have := HSZ.out; omega)
   obtain ⟨m0, m1, m2, m3⟩ := C4.put HRR.out (.int .i64 (likeT v.t t)) (.slice (some ⟨wa.heap.size, 0, none⟩) rl.length rl.length) (.slice none 0 0) (.slice none 0 0)
   simp only [put4, Nat.zero_add] at m0 m1 m2 m3
   have hrn := HRN.out
   rw [hrn] at m0 m1 m2 m3
   refine bodyPost_ret (v := .tuple #[.agg #[.int .i64 (likeT v.t t), .slice (some ⟨wa.heap.size, 0, none⟩) v.n.length v.n.length, .slice none 0 0, .slice none 0 0], .int .i64 0]) (by simp [results, Tryz.results28, go_sem, m0, m1, m2, m3]) rfl ?_
   rw [← hrn]
   exact HFIN
set_option maxHeartbeats 8000000 in
set_option maxRecDepth 100000 in
theorem mapped_negative (t : Int) (ht0 : -100 ≤ t ∧ t ≤ 100) (v : Vl) (w : World) (B : Nat) (nA : Option Addr) (nc : Nat) (sA : Option Addr) (sc : Nat) (lA : Option Addr) (lc : Nat) (ht : v.tot ≤ 1200000000) (hB : B ≤ w.heap.size) (h : VB w B v nA nc sA sc lA lc) :
  Calls Tryz.prog 28 #[.agg #[.int .i64 v.t, .slice nA v.n.length nc, .slice sA v.s.length sc, .slice lA v.l.length lc], .int .i64 t, .func (.func 29) #[] #[]] w (NewE (.mk (likeT v.t t) (v.n.map negW) [] []) w) := by
 obtain ⟨l1, l2, l3, l4⟩ := Vl.lens v ht
 obtain ⟨wa, hwa⟩ : ∃ wa, wa = (w.alloc (.cells #[.int .i64 v.t, .slice nA v.n.length nc, .slice sA v.s.length sc, .slice lA v.l.length lc] 26)).alloc (.cells #[.int .i64 0, .slice none 0 0, .slice none 0 0, .slice none 0 0] 26) := ⟨_, rfl⟩
 have bx : wa.heap[w.heap.size]? = some (.cells #[.int .i64 v.t, .slice nA v.n.length nc, .slice sA v.s.length sc, .slice lA v.l.length lc] 26 (0, 0)) := by rw [hwa]; exact (Below.heap_alloc _ _ _ (by rw [World.size_alloc]; omega)).trans (heap_alloc_new w _)
 have bz : wa.heap[w.heap.size + 1]? = some (.cells #[.int .i64 0, .slice none 0 0, .slice none 0 0, .slice none 0 0] 26 (0, 0)) := by rw [hwa]; have := heap_alloc_new (w.alloc (.cells #[.int .i64 v.t, .slice nA v.n.length nc, .slice sA v.s.length sc, .slice lA v.l.length lc] 26)) (.cells #[.int .i64 0, .slice none 0 0, .slice none 0 0, .slice none 0 0] 26); rwa [World.size_alloc] at this
 have HBX := hide bx
 have HBZ := hide bz
 have HSZ := hide (show wa.heap.size = w.heap.size + 2 by rw [hwa]; simp)
 have HG := hide (show w.grownBy wa none by rw [hwa]; exact gb_alloc (gb_alloc (gb_refl w none) _) _)
 have HWE := hide hwa
 obtain ⟨c0, c1, c2, c3⟩ : C4 wa w.heap.size 0 (.int .i64 v.t) (.slice nA v.n.length nc) (.slice sA v.s.length sc) (.slice lA v.l.length lc) := c4k bx
 obtain ⟨i1, hi1, hiz, his, hib⟩ := info_parts Tryz.info64
 obtain ⟨w0, hmk, hown, hg0⟩ := run_make_full (P := Tryz.prog) wa wa.heap.size 22 2 i1 (.int .i64 0) 1 Tryz.underlying22 hi1 hiz his .i64 .i64 v.n.length (by rw [hib]; omega) (by unfold maxLen; omega) (Nat.le_refl _)
 rw [show (madeCells (Value.int .i64 0).cells (v.n.length * 1)).toList = List.replicate v.n.length (.int .i64 0) by rw [Nat.mul_one]; exact toList_madeCells_one _ v.n.length] at hown
 have HOWN := hide hown
 have HG0 := hide hg0
 have HL := hide l1
 have HN := hide h.n
 have HBB := hide hB
 have HT0 := hide ht0
 obtain ⟨rl, hrl⟩ : ∃ rl, rl = v.n.map negW := ⟨_, rfl⟩
 have HRL := hide hrl
 rw [← hrl]
 clear hown hg0 bx bz hwa h hB ht l1 l2 l3 l4 hi1 hiz his hib ht0 hrl
 go_enter Tryz.func28, Tryz.ntmps28
 go_upto_region 1 with fail
 rw [← HWE.out]
 go_upto_region 2 with fail
 clear c0 c1 c2 c3 hmk
 obtain ⟨c0, c1, c2, c3⟩ := c4k (blk_keep HBX.out HG0.out (by simp))
 go_wp2_with fail
 clear c0 c1 c2 c3
 go_loopw [20] (fun i wr => ∃ j : Nat, i = .int .i64 (j : Int) ∧ j ≤ v.n.length ∧
  wr.ownsRow wa.heap.size 2 1 (.slice (some ⟨wa.heap.size, 0, none⟩) v.n.length v.n.length) v.n.length (i64s ((v.n.take j).map negW) ++ List.replicate (v.n.length - j) (.int .i64 0)) ∧ wa.grownBy wr none) (fun i _ => v.n.length - (intOf i).toNat)
 case atStart => exact ⟨0, rfl, Nat.zero_le _, by simpa [i64s] using HOWN.out, HG0.out⟩
 case round =>
  obtain ⟨j, rfl, hj, how, hgr⟩ := hrel
  by_cases hlt : j < v.n.length
  ·have hlt1 : (j : Int) < (v.n.length : Int) := by omega
   have h6 : IntKind.i64.wrap ((j : Int) + 1) = ((j + 1 : Nat) : Int) := by rw [IntKind.wrap_i64]; have := HL.out; omega
   obtain ⟨a, ha, _, hcp0⟩ := HN.out.i64 hlt
   subst ha
   obtain ⟨p, hpe⟩ : ∃ p, p = v.n[j] := ⟨_, rfl⟩
   rw [← hpe] at hcp0
   have hcp := cell_gb hcp0 (gb_trans HG.out hgr (.inl rfl))
   have HTK := hide (show (v.n.take (j + 1)).map negW = (v.n.take j).map negW ++ [negW p] by rw [List.take_succ_eq_append_getElem hlt, List.map_append, hpe]; rfl)
   have hlen : ((v.n.take j).map negW).length = j := by rw [List.length_map, List.length_take]; omega
   have HLEN := hide hlen
   have HO5 := hide how
   have HGR := hide hgr
   have HLT := hide hlt
   have c5 := how.cellAt j (by omega)
   have hil : (i64s ((v.n.take j).map negW)).length = j := by unfold i64s; rw [List.length_map]; exact hlen
   rw [List.getElem?_append_right (by rw [hil]; exact Nat.le_refl _), hil, Nat.sub_self, List.getElem?_replicate, if_pos (by omega)] at c5
   have z5 := how.frozenAt j
   have HFN := hide (negative_any p wr)
   generalize negW p = gp at *
   clear how hgr hlt hj hlen hcp0 hpe hil
   go_wp2_with (go_at_call 29; refine HFN.out.mono ?_; rintro e w1 ⟨rfl, rfl⟩)
   go_roundw
   case rel =>
    have hlt := HLT.out
    refine ⟨j + 1, by go_num, by omega, ?_, gb_setCell HGR.out (.inr (Nat.le_refl _)) _⟩
    have h1 := (HO5.out.stored j (.int .i64 gp)).1
    obtain ⟨k, hk⟩ : ∃ k, v.n.length - j = k + 1 := ⟨v.n.length - j - 1, by omega⟩
    rw [hk] at h1
    have h2 := i64s_set_mid ((v.n.take j).map negW) gp k
    rw [HLEN.out] at h2
    rw [h2] at h1
    rw [show v.n.length - (j + 1) = k by omega, HTK.out]
    exact h1
   case measure =>
    have hlt := HLT.out
    simp [intOf]
    omega
  ·have hlt1 : ¬ (j : Int) < (v.n.length : Int) := by omega
   have hjl : j = v.n.length := by omega
   have hr9 : (v.n.take j).map negW = rl := by rw [HRL.out, hjl, List.take_length]
   have hrn : rl.length = v.n.length := by rw [HRL.out, List.length_map]
   have hoq : wr.ownsRow wa.heap.size 2 1 (.slice (some ⟨wa.heap.size, 0, none⟩) rl.length rl.length) rl.length (i64s rl) := by rw [hr9, hjl, Nat.sub_self] at how; rw [hrn]; simpa using how
   have HO := hide hoq
   have HRN := hide hrn
   have HGR := hide hgr
   clear hgr how hoq hjl hlt hj hr9
   obtain ⟨c0, c1, c2, c3⟩ := c4k (blk_keep HBX.out HGR.out (by simp))
   go_wp2_with (go_at_call 68; refine (like_any v.t t _ _ _ _ HT0.out ⟨some ⟨wa.heap.size, 0, none⟩, v.n.length, v.n.length, rfl⟩ _).mono ?_; rintro e w2 ⟨rfl, hg2⟩; have HG2 := hide (gb_trans HGR.out hg2 (.inl rfl)); have HO2 := hide (HO.out.kept hg2 (by cases (Value.slice (some ⟨wa.heap.size, 0, none⟩) rl.length rl.length).ownBlock <;> simp)); clear hg2; have hrr := blk_keep HBZ.out HG2.out (by simp); have HRR := hide hrr; obtain ⟨z0, z1, z2, z3, y0, y1, y2, y3⟩ := zz4 hrr; clear hrr)
   obtain ⟨f, ho, hnd, hf⟩ := VOw.row64 (t := likeT v.t t) (Nat.le_refl _) HO2.out
   have HFIN := NewE.fin (x := .mk (likeT v.t t) rl [] []) (wa := wa) (g := w.heap.size + 1) ho ⟨hnd, fun b hb => ⟨hf b hb, VOw.lt _ _ _ ho b hb⟩⟩ HG.out HG2.out (Nat.le_succ _) (by have := HSZ.out; omega)
   obtain ⟨m0, m1, m2, m3⟩ := C4.put HRR.out (.int .i64 (likeT v.t t)) (.slice (some ⟨wa.heap.size, 0, none⟩) rl.length rl.length) (.slice none 0 0) (.slice none 0 0)
   simp only [put4, Nat.zero_add] at m0 m1 m2 m3
   have hrn := HRN.out
   rw [hrn] at m0 m1 m2 m3
   refine bodyPost_ret (v := .tuple #[.agg #[.int .i64 (likeT v.t t), .slice (some ⟨wa.heap.size, 0, none⟩) v.n.length v.n.length, .slice none 0 0, .slice none 0 0], .int .i64 0]) (by simp [results, Tryz.results28, go_sem, m0, m1, m2, m3]) rfl ?_
   rw [← hrn]
   exact HFIN
end Go.Proofs.YtbmgodmfpoappaaGreat
