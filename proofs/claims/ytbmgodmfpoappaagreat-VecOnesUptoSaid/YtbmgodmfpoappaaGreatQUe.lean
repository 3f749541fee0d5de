/-
  vec.conversion, vec.Cast.
-/
import Derived.Test.YtbmgodmfpoappaaGreatQOc
import Derived.Test.YtbmgodmfpoappaaGreatQKq
namespace Go.Proofs.YtbmgodmfpoappaaGreat
open Go.RowKit
attribute [local go_sem ↓] Go.wp_at_zero Go.wp_at_succ
theorem AtN.fin {x : Vl} {k : Int} {w wa w1 : World} {g : Nat} {xA : Option Addr} {xc : Nat} {yA : Option Addr} {yc : Nat} {zA : Option Addr} {zc : Nat} {f : List Nat} (h : VOw w1 x [.int .i64 x.t, .slice xA x.n.length xc, .slice yA x.s.length yc, .slice zA x.l.length zc] f) (hn : New wa w1 f) (hg : w.grownBy wa none) (hg1 : wa.grownBy w1 none) (hgs : w.heap.size ≤ g) (hga : g < wa.heap.size) :
  AtN x k w (.returned (.tuple #[.agg #[.int .i64 x.t, .slice xA x.n.length xc, .slice yA x.s.length yc, .slice zA x.l.length zc], .int .i64 k])) (put4 w1 g 0 (.int .i64 x.t) (.slice xA x.n.length xc) (.slice yA x.s.length yc) (.slice zA x.l.length zc)) := by
 have s1 := hg1.size
 have s4 := put4_size w1 g 0 (.int .i64 x.t) (.slice xA x.n.length xc) (.slice yA x.s.length yc) (.slice zA x.l.length zc)
 refine ⟨xA, xc, yA, yc, zA, zc, f, rfl, VOw.keep _ _ _ h fun b hb => ?_, (hn.less hg.size).more (by omega), put4_to (gb_trans hg hg1 (.inl rfl)) hgs⟩
 have := hn.2 b hb
 exact (put4_gb w1 g 0 _ _ _ _).block b (by omega) (by intro e; injection e with e; omega)
def convV (f t : Int) : Value := if t = 1 then .func (.func 72) #[] #[] else if f = 5 ∧ t ≠ 5 then .func (.func 73) #[] #[] else if f ≠ 5 ∧ t = 5 then .func (.func 74) #[] #[] else .func (.func 75) #[] #[]
theorem conv_any (f t : Int) (w : World) : Calls Tryz.prog 40 #[.int .i64 f, .int .i64 t] w fun e w' => e = .returned (convV f t) ∧ w = w' := by
 by_cases h1 : t = 1
 ·have HZ := hide (show convV f t = .func (.func 72) #[] #[] by unfold convV; rw [if_pos h1])
  have e1 := int_beq_t h1
  clear h1
  go_enter Tryz.func40, Tryz.ntmps40
  go_wp2_with fail
  exact bodyPost_ret (v := .func (.func 72) #[] #[]) (by simp [results, Tryz.results40, go_sem]) rfl ⟨by rw [HZ.out], rfl⟩
 have e1 := int_beq_f h1
 by_cases h5 : t = 5
 ·have e5 : (t != 5) = false := by simp [h5]
  have e5' : (t == 5) = true := by simp [h5]
  by_cases hf : f = 5
  ·have HZ := hide (show convV f t = .func (.func 75) #[] #[] by unfold convV; rw [if_neg h1, if_neg (fun h => h.2 h5), if_neg (fun h => h.1 hf)])
   have f5 : (f == 5) = true := by simp [hf]
   have f5' : (f != 5) = false := by simp [hf]
   clear h1 h5 hf
   go_enter Tryz.func40, Tryz.ntmps40
   go_wp2_with fail
   exact bodyPost_ret (v := .func (.func 75) #[] #[]) (by simp [results, Tryz.results40, go_sem]) rfl ⟨by rw [HZ.out], rfl⟩
  ·have HZ := hide (show convV f t = .func (.func 74) #[] #[] by unfold convV; rw [if_neg h1, if_neg (fun h => hf h.1), if_pos ⟨hf, h5⟩])
   have f5 : (f == 5) = false := by simp [hf]
   have f5' : (f != 5) = true := by simp [hf]
   clear h1 h5 hf
   go_enter Tryz.func40, Tryz.ntmps40
   go_wp2_with fail
   exact bodyPost_ret (v := .func (.func 74) #[] #[]) (by simp [results, Tryz.results40, go_sem]) rfl ⟨by rw [HZ.out], rfl⟩
 ·have e5 : (t != 5) = true := by simp [h5]
  have e5' : (t == 5) = false := by simp [h5]
  by_cases hf : f = 5
  ·have HZ := hide (show convV f t = .func (.func 73) #[] #[] by unfold convV; rw [if_neg h1, if_pos ⟨hf, h5⟩])
   have f5 : (f == 5) = true := by simp [hf]
   have f5' : (f != 5) = false := by simp [hf]
   clear h1 h5 hf
   go_enter Tryz.func40, Tryz.ntmps40
   go_wp2_with fail
   exact bodyPost_ret (v := .func (.func 73) #[] #[]) (by simp [results, Tryz.results40, go_sem]) rfl ⟨by rw [HZ.out], rfl⟩
  ·have HZ := hide (show convV f t = .func (.func 75) #[] #[] by unfold convV; rw [if_neg h1, if_neg (fun h => hf h.1), if_neg (fun h => h5 h.2)])
   have f5 : (f == 5) = false := by simp [hf]
   have f5' : (f != 5) = true := by simp [hf]
   clear h1 h5 hf
   go_enter Tryz.func40, Tryz.ntmps40
   go_wp2_with fail
   exact bodyPost_ret (v := .func (.func 75) #[] #[]) (by simp [results, Tryz.results40, go_sem]) rfl ⟨by rw [HZ.out], rfl⟩
set_option maxHeartbeats 8000000 in
set_option maxRecDepth 100000 in
theorem vCast_arg (t : Int) (v : Vl) (w : World) (nA : Option Addr) (nc : Nat) (sA : Option Addr) (sc : Nat) (lA : Option Addr) (lc : Nat) (hn : t < 0 ∨ hasN t = false) :
  Calls Tryz.prog 16 #[.int .i64 t, .agg #[.int .i64 v.t, .slice nA v.n.length nc, .slice sA v.s.length sc, .slice lA v.l.length lc]] w (ErrV 2 w) := by
 obtain ⟨wa, hwa⟩ : ∃ wa, wa = (w.alloc (.cells #[.int .i64 v.t, .slice nA v.n.length nc, .slice sA v.s.length sc, .slice lA v.l.length lc] 26)).alloc (.cells #[.int .i64 0, .slice none 0 0, .slice none 0 0, .slice none 0 0] 26) := ⟨_, rfl⟩
 have bx : wa.heap[w.heap.size]? = some (.cells #[.int .i64 v.t, .slice nA v.n.length nc, .slice sA v.s.length sc, .slice lA v.l.length lc] 26 (0, 0)) := by rw [hwa]; exact (Below.heap_alloc _ _ _ (by rw [World.size_alloc]; omega)).trans (heap_alloc_new w _)
 have bz : wa.heap[w.heap.size + 1]? = some (.cells #[.int .i64 0, .slice none 0 0, .slice none 0 0, .slice none 0 0] 26 (0, 0)) := by rw [hwa]; have := heap_alloc_new (w.alloc (.cells #[.int .i64 v.t, .slice nA v.n.length nc, .slice sA v.s.length sc, .slice lA v.l.length lc] 26)) (.cells #[.int .i64 0, .slice none 0 0, .slice none 0 0, .slice none 0 0] 26); rwa [World.size_alloc] at this
 have HBX := hide bx
 have HBZ := hide bz
 have HSZ := hide (show wa.heap.size = w.heap.size + 2 by rw [hwa]; simp)
 have HG := hide (show w.grownBy wa none by rw [hwa]; exact gb_alloc (gb_alloc (gb_refl w none) _) _)
 have HWE := hide hwa
 obtain ⟨c0, c1, c2, c3⟩ : C4 wa w.heap.size 0 (.int .i64 v.t) (.slice nA v.n.length nc) (.slice sA v.s.length sc) (.slice lA v.l.length lc) := c4k bx
 have hnt := fun w2 => vNum_any t (.slice none 0 0) (.slice none 0 0) (.slice none 0 0) w2
 by_cases h0 : t < 0
 ·have hrr := blk_keep HBZ.out (gb_refl wa none) (by simp)
  have HRR := hide hrr
  obtain ⟨z0, z1, z2, z3, y0, y1, y2, y3⟩ := zz4 hrr
  clear hrr
  clear hn bx bz hwa hnt
  go_enter Tryz.func16, Tryz.ntmps16
  go_upto_region 1 with fail
  rw [← HWE.out]
  go_wp2_with fail
  obtain ⟨m0, m1, m2, m3⟩ := C4.put HRR.out (.int .i64 0) (.slice none 0 0) (.slice none 0 0) (.slice none 0 0)
  simp only [put4, Nat.zero_add] at m0 m1 m2 m3
  refine bodyPost_ret (v := .tuple #[.agg #[.int .i64 0, .slice none 0 0, .slice none 0 0, .slice none 0 0], .int .i64 2]) (by simp [results, Tryz.results16, go_sem, m0, m1, m2, m3]) rfl ⟨rfl, ?_⟩
  exact put4_to HG.out (Nat.le_succ _)
 ·have hn2 : hasN t = false := by rcases hn with h | h; exact absurd h h0; exact h
  rw [hn2] at hnt
  have HNT := hide hnt
  clear hn bx bz hwa hnt hn2
  go_enter Tryz.func16, Tryz.ntmps16
  go_wp2_with fail
  rw [← HWE.out]
  go_wp2_with (go_at_call 34; (with_reducible refine (HNT.out _).mono ?_); rintro e w1 ⟨rfl, hg1⟩; have HGA1 := hide hg1; clear hg1 c0 c1 c2 c3; have hrr := blk_keep HBZ.out HGA1.out (by simp); have HRR := hide hrr; obtain ⟨z0, z1, z2, z3, y0, y1, y2, y3⟩ := zz4 hrr; clear hrr)
  obtain ⟨m0, m1, m2, m3⟩ := C4.put HRR.out (.int .i64 0) (.slice none 0 0) (.slice none 0 0) (.slice none 0 0)
  simp only [put4, Nat.zero_add] at m0 m1 m2 m3
  refine bodyPost_ret (v := .tuple #[.agg #[.int .i64 0, .slice none 0 0, .slice none 0 0, .slice none 0 0], .int .i64 2]) (by simp [results, Tryz.results16, go_sem, m0, m1, m2, m3]) rfl ⟨rfl, ?_⟩
  exact put4_to (gb_trans HG.out HGA1.out (.inl rfl)) (Nat.le_succ _)
set_option maxHeartbeats 8000000 in
set_option maxRecDepth 100000 in
theorem vCast_no (t : Int) (v : Vl) (w : World) (nA : Option Addr) (nc : Nat) (sA : Option Addr) (sc : Nat) (lA : Option Addr) (lc : Nat) (ht0 : 0 ≤ t) (hn : hasN t = true) (hs : hasN v.t = false) :
  Calls Tryz.prog 16 #[.int .i64 t, .agg #[.int .i64 v.t, .slice nA v.n.length nc, .slice sA v.s.length sc, .slice lA v.l.length lc]] w (ErrV 31 w) := by
 obtain ⟨wa, hwa⟩ : ∃ wa, wa = (w.alloc (.cells #[.int .i64 v.t, .slice nA v.n.length nc, .slice sA v.s.length sc, .slice lA v.l.length lc] 26)).alloc (.cells #[.int .i64 0, .slice none 0 0, .slice none 0 0, .slice none 0 0] 26) := ⟨_, rfl⟩
 have bx : wa.heap[w.heap.size]? = some (.cells #[.int .i64 v.t, .slice nA v.n.length nc, .slice sA v.s.length sc, .slice lA v.l.length lc] 26 (0, 0)) := by rw [hwa]; exact (Below.heap_alloc _ _ _ (by rw [World.size_alloc]; omega)).trans (heap_alloc_new w _)
 have bz : wa.heap[w.heap.size + 1]? = some (.cells #[.int .i64 0, .slice none 0 0, .slice none 0 0, .slice none 0 0] 26 (0, 0)) := by rw [hwa]; have := heap_alloc_new (w.alloc (.cells #[.int .i64 v.t, .slice nA v.n.length nc, .slice sA v.s.length sc, .slice lA v.l.length lc] 26)) (.cells #[.int .i64 0, .slice none 0 0, .slice none 0 0, .slice none 0 0] 26); rwa [World.size_alloc] at this
 have HBX := hide bx
 have HBZ := hide bz
 have HSZ := hide (show wa.heap.size = w.heap.size + 2 by rw [hwa]; simp)
 have HG := hide (show w.grownBy wa none by rw [hwa]; exact gb_alloc (gb_alloc (gb_refl w none) _) _)
 have HWE := hide hwa
 obtain ⟨c0, c1, c2, c3⟩ : C4 wa w.heap.size 0 (.int .i64 v.t) (.slice nA v.n.length nc) (.slice sA v.s.length sc) (.slice lA v.l.length lc) := c4k bx
 have hnt := fun w2 => vNum_any t (.slice none 0 0) (.slice none 0 0) (.slice none 0 0) w2
 rw [hn] at hnt
 have HNT := hide hnt
 have hnu := fun w2 => vNum_any v.t (.slice nA v.n.length nc) (.slice sA v.s.length sc) (.slice lA v.l.length lc) w2
 rw [hs] at hnu
 have HNU := hide hnu
 have h0 : ¬ t < 0 := by omega
 clear hnt hnu hs hn bx bz hwa ht0
 go_enter Tryz.func16, Tryz.ntmps16
 go_wp2_with fail
 rw [← HWE.out]
 go_wp2_with (first
  | (go_at_call 34; (with_reducible refine (HNT.out _).mono ?_); rintro e w1 ⟨rfl, hg1⟩; have HGA1 := hide hg1; clear hg1 c0 c1 c2 c3; obtain ⟨c0, c1, c2, c3⟩ := c4k (blk_keep HBX.out HGA1.out (by simp)))
  | (go_at_call 34; (with_reducible refine (HNU.out _).mono ?_); rintro e w2 ⟨rfl, hg2⟩; have HGA2 := hide (gb_trans HGA1.out hg2 (.inl rfl)); clear hg2 c0 c1 c2 c3; have hrr := blk_keep HBZ.out HGA2.out (by simp); have HRR := hide hrr; obtain ⟨z0, z1, z2, z3, y0, y1, y2, y3⟩ := zz4 hrr; clear hrr))
 obtain ⟨m0, m1, m2, m3⟩ := C4.put HRR.out (.int .i64 0) (.slice none 0 0) (.slice none 0 0) (.slice none 0 0)
 simp only [put4, Nat.zero_add] at m0 m1 m2 m3
 refine bodyPost_ret (v := .tuple #[.agg #[.int .i64 0, .slice none 0 0, .slice none 0 0, .slice none 0 0], .int .i64 31]) (by simp [results, Tryz.results16, go_sem, m0, m1, m2, m3]) rfl ⟨rfl, ?_⟩
 exact put4_to (gb_trans HG.out HGA2.out (.inl rfl)) (Nat.le_succ _)
set_option maxHeartbeats 8000000 in
set_option maxRecDepth 100000 in
theorem vCast_in (t : Int) (v : Vl) (w : World) (nA : Option Addr) (nc : Nat) (sA : Option Addr) (sc : Nat) (lA : Option Addr) (lc : Nat) (ht0 : 0 ≤ t) (hn : hasN t = true) (hs : hasN v.t = true) (y : Vl) (k : Int)
  (hmp : ∀ w2, w.grownBy w2 none → Calls Tryz.prog 28 #[.agg #[.int .i64 v.t, .slice nA v.n.length nc, .slice sA v.s.length sc, .slice lA v.l.length lc], .int .i64 t, convV (kindO v.t v.s.length v.n.length) t] w2 (AtN y k w2)) :
  Calls Tryz.prog 16 #[.int .i64 t, .agg #[.int .i64 v.t, .slice nA v.n.length nc, .slice sA v.s.length sc, .slice lA v.l.length lc]] w (AtN y k w) := by
 obtain ⟨wa, hwa⟩ : ∃ wa, wa = (w.alloc (.cells #[.int .i64 v.t, .slice nA v.n.length nc, .slice sA v.s.length sc, .slice lA v.l.length lc] 26)).alloc (.cells #[.int .i64 0, .slice none 0 0, .slice none 0 0, .slice none 0 0] 26) := ⟨_, rfl⟩
 have bx : wa.heap[w.heap.size]? = some (.cells #[.int .i64 v.t, .slice nA v.n.length nc, .slice sA v.s.length sc, .slice lA v.l.length lc] 26 (0, 0)) := by rw [hwa]; exact (Below.heap_alloc _ _ _ (by rw [World.size_alloc]; omega)).trans (heap_alloc_new w _)
 have bz : wa.heap[w.heap.size + 1]? = some (.cells #[.int .i64 0, .slice none 0 0, .slice none 0 0, .slice none 0 0] 26 (0, 0)) := by rw [hwa]; have := heap_alloc_new (w.alloc (.cells #[.int .i64 v.t, .slice nA v.n.length nc, .slice sA v.s.length sc, .slice lA v.l.length lc] 26)) (.cells #[.int .i64 0, .slice none 0 0, .slice none 0 0, .slice none 0 0] 26); rwa [World.size_alloc] at this
 have HBX := hide bx
 have HBZ := hide bz
 have HSZ := hide (show wa.heap.size = w.heap.size + 2 by rw [hwa]; simp)
 have HG := hide (show w.grownBy wa none by rw [hwa]; exact gb_alloc (gb_alloc (gb_refl w none) _) _)
 have HWE := hide hwa
 obtain ⟨c0, c1, c2, c3⟩ : C4 wa w.heap.size 0 (.int .i64 v.t) (.slice nA v.n.length nc) (.slice sA v.s.length sc) (.slice lA v.l.length lc) := c4k bx
 have hnt := fun w2 => vNum_any t (.slice none 0 0) (.slice none 0 0) (.slice none 0 0) w2
 rw [hn] at hnt
 have HNT := hide hnt
 have hnu := fun w2 => vNum_any v.t (.slice nA v.n.length nc) (.slice sA v.s.length sc) (.slice lA v.l.length lc) w2
 rw [hs] at hnu
 have HNU := hide hnu
 have h0 : ¬ t < 0 := by omega
 have HKD := hide (fun w2 => kind_any v.t nA v.n.length nc sA v.s.length sc (.slice lA v.l.length lc) w2)
 generalize kindO v.t v.s.length v.n.length = kk at *
 have hcv := fun w2 => conv_any kk t w2
 generalize convV kk t = cv at *
 have HCV := hide hcv
 have HMP := hide hmp
 clear hnt hnu hs hn bx bz hwa ht0 hmp hcv
 go_enter Tryz.func16, Tryz.ntmps16
 go_wp2_with fail
 rw [← HWE.out]
 go_wp2_with (first
  | (go_at_call 34; (with_reducible refine (HNT.out _).mono ?_); rintro e w1 ⟨rfl, hg1⟩; have HGA1 := hide hg1; clear hg1 c0 c1 c2 c3; obtain ⟨c0, c1, c2, c3⟩ := c4k (blk_keep HBX.out HGA1.out (by simp)))
  | (go_at_call 34; (with_reducible refine (HNU.out _).mono ?_); rintro e w2 ⟨rfl, hg2⟩; have HGA2 := hide (gb_trans HGA1.out hg2 (.inl rfl)); clear hg2 c0 c1 c2 c3; obtain ⟨c0, c1, c2, c3⟩ := c4k (blk_keep HBX.out HGA2.out (by simp))))
 go_region_law (first
  | (go_simp; go_at_call 27; refine (HKD.out _).mono ?_; rintro e w3 ⟨rfl, hg3⟩; have HGA3 := hide (gb_trans HGA2.out (show w2.grownBy w3 none from ⟨hg3.os, hg3.tape, hg3.output, hg3.size, hg3.block⟩) (.inl rfl)); clear hg3 c0 c1 c2 c3; obtain ⟨c0, c1, c2, c3⟩ := c4k (blk_keep HBX.out HGA3.out (by simp)))
  | (go_simp; go_at_call 40; refine (HCV.out _).mono ?_; rintro e w4 ⟨rfl, rfl⟩)
  | (go_simp; go_at_call 28; refine (HMP.out _ (gb_trans HG.out HGA3.out (.inl rfl))).mono ?_; rintro e w5 ⟨iA, ic, jA, jc, kA, kc, f3, rfl, ho3, hn3, hg3⟩; have HO3 := hide ho3; have HN3 := hide hn3; have HG3 := hide (gb_trans HGA3.out hg3 (.inl rfl)); have HGW3 := hide hg3; clear ho3 hn3 hg3; have hrr := blk_keep HBZ.out HG3.out (by simp); have HRR := hide hrr; obtain ⟨z0, z1, z2, z3, y0, y1, y2, y3⟩ := zz4 hrr; clear hrr))
 all_goals
  go_wp2_with fail
  have HFIN := AtN.fin (k := k) HO3.out HN3.out (gb_trans HG.out HGA3.out (.inl rfl)) HGW3.out (Nat.le_succ w.heap.size) (by have := HSZ.out; have := HGA3.out.size; omega)
  obtain ⟨m0, m1, m2, m3⟩ := C4.put HRR.out (.int .i64 y.t) (.slice iA y.n.length ic) (.slice jA y.s.length jc) (.slice kA y.l.length kc)
  simp only [put4, Nat.zero_add] at m0 m1 m2 m3
  refine bodyPost_ret (v := .tuple #[.agg #[.int .i64 y.t, .slice iA y.n.length ic, .slice jA y.s.length jc, .slice kA y.l.length kc], .int .i64 k]) (by simp [results, Tryz.results16, go_sem, m0, m1, m2, m3]) rfl ?_
  exact HFIN
end Go.Proofs.YtbmgodmfpoappaaGreat
