/-
  vec.Fill.
-/
import Derived.Test.YtbmgodmfpoappaaGreatQUh
import Derived.Test.YtbmgodmfpoappaaGreatQUx
namespace Go.Proofs.YtbmgodmfpoappaaGreat
open Go.RowKit
attribute [local go_sem ↓] Go.wp_at_zero Go.wp_at_succ
set_option maxHeartbeats 8000000 in
set_option maxRecDepth 100000 in
theorem vFill_no (x : Vl) (xnA : Option Addr) (xnc : Nat) (xsA : Option Addr) (xsc : Nat) (xlA : Option Addr) (xlc : Nat) (v : Vl) (w : World) (nA : Option Addr) (nc : Nat) (sA : Option Addr) (sc : Nat) (lA : Option Addr) (lc : Nat) (hn : kindO v.t v.s.length v.n.length = 0 ∨ atomT x.t = false ∨ kindO x.t x.s.length x.n.length ≠ kindO v.t v.s.length v.n.length) :
  Calls Tryz.prog 18 #[.agg #[.int .i64 x.t, .slice xnA x.n.length xnc, .slice xsA x.s.length xsc, .slice xlA x.l.length xlc], .agg #[.int .i64 v.t, .slice nA v.n.length nc, .slice sA v.s.length sc, .slice lA v.l.length lc]] w (ErrV 31 w) := by
 obtain ⟨wa, hwa⟩ : ∃ wa, wa = ((w.alloc (.cells #[.int .i64 x.t, .slice xnA x.n.length xnc, .slice xsA x.s.length xsc, .slice xlA x.l.length xlc] 26)).alloc (.cells #[.int .i64 v.t, .slice nA v.n.length nc, .slice sA v.s.length sc, .slice lA v.l.length lc] 26)).alloc (.cells #[.int .i64 0, .slice none 0 0, .slice none 0 0, .slice none 0 0] 26) := ⟨_, rfl⟩
 have by_ : wa.heap[w.heap.size]? = some (.cells #[.int .i64 x.t, .slice xnA x.n.length xnc, .slice xsA x.s.length xsc, .slice xlA x.l.length xlc] 26 (0, 0)) := by rw [hwa]; exact (Below.heap_alloc _ _ _ (by rw [World.size_alloc, World.size_alloc]; omega)).trans ((Below.heap_alloc _ _ _ (by rw [World.size_alloc]; omega)).trans (heap_alloc_new w _))
 have bx : wa.heap[w.heap.size + 1]? = some (.cells #[.int .i64 v.t, .slice nA v.n.length nc, .slice sA v.s.length sc, .slice lA v.l.length lc] 26 (0, 0)) := by rw [hwa]; refine (Below.heap_alloc _ _ _ (by rw [World.size_alloc, World.size_alloc]; omega)).trans ?_; have := heap_alloc_new (w.alloc (.cells #[.int .i64 x.t, .slice xnA x.n.length xnc, .slice xsA x.s.length xsc, .slice xlA x.l.length xlc] 26)) (.cells #[.int .i64 v.t, .slice nA v.n.length nc, .slice sA v.s.length sc, .slice lA v.l.length lc] 26); rwa [World.size_alloc] at this
 have bz : wa.heap[w.heap.size + 1 + 1]? = some (.cells #[.int .i64 0, .slice none 0 0, .slice none 0 0, .slice none 0 0] 26 (0, 0)) := by rw [hwa]; have := heap_alloc_new ((w.alloc (.cells #[.int .i64 x.t, .slice xnA x.n.length xnc, .slice xsA x.s.length xsc, .slice xlA x.l.length xlc] 26)).alloc (.cells #[.int .i64 v.t, .slice nA v.n.length nc, .slice sA v.s.length sc, .slice lA v.l.length lc] 26)) (.cells #[.int .i64 0, .slice none 0 0, .slice none 0 0, .slice none 0 0] 26); rwa [World.size_alloc, World.size_alloc] at this
 have HBY := hide by_
 have HBX := hide bx
 have HBZ := hide bz
 have HSZ := hide (show wa.heap.size = w.heap.size + 3 by rw [hwa]; simp)
 have HG := hide (show w.grownBy wa none by rw [hwa]; exact gb_alloc (gb_alloc (gb_alloc (gb_refl w none) _) _) _)
 have HWE := hide hwa
 obtain ⟨c0, c1, c2, c3⟩ := c4k (blk_keep HBX.out (gb_refl wa none) (by simp))
 obtain ⟨e0, e1, e2, e3⟩ := c4k (blk_keep HBY.out (gb_refl wa none) (by simp))
 have HKV := hide (fun w2 => kind_any v.t nA v.n.length nc sA v.s.length sc (.slice lA v.l.length lc) w2)
 have HKX := hide (fun w2 => kind_any x.t xnA x.n.length xnc xsA x.s.length xsc (.slice xlA x.l.length xlc) w2)
 have hat := fun w2 => isAtom_any x.t (.slice xnA x.n.length xnc) (.slice xsA x.s.length xsc) (.slice xlA x.l.length xlc) w2
 generalize kindO v.t v.s.length v.n.length = kv at *
 generalize kindO x.t x.s.length x.n.length = kx at *
 by_cases h0 : kv = 0
 ·have q0 := int_beq_t h0
  clear hn by_ bx bz hwa hat h0
  go_enter Tryz.func18, Tryz.ntmps18
  go_wp2_with fail
  rw [← HWE.out]
  go_wp2_with (first
   | (go_at_call 27; (with_reducible refine (HKV.out _).mono ?_); rintro e w1 ⟨rfl, hg1⟩; have HGA1 := hide hg1; clear hg1 c0 c1 c2 c3 e0 e1 e2 e3; obtain ⟨c0, c1, c2, c3⟩ := c4k (blk_keep HBX.out HGA1.out (by simp)); obtain ⟨e0, e1, e2, e3⟩ := c4k (blk_keep HBY.out HGA1.out (by simp)); have hrr := blk_keep HBZ.out HGA1.out (by simp); have HRR := hide hrr; obtain ⟨z0, z1, z2, z3, y0, y1, y2, y3⟩ := zz4 hrr; clear hrr))
  obtain ⟨m0, m1, m2, m3⟩ := C4.put HRR.out (.int .i64 0) (.slice none 0 0) (.slice none 0 0) (.slice none 0 0)
  simp only [put4, Nat.zero_add] at m0 m1 m2 m3
  refine bodyPost_ret (v := .tuple #[.agg #[.int .i64 0, .slice none 0 0, .slice none 0 0, .slice none 0 0], .int .i64 31]) (by simp [results, Tryz.results18, go_sem, m0, m1, m2, m3]) rfl ⟨rfl, ?_⟩
  exact put4_to (gb_trans HG.out HGA1.out (.inl rfl)) (by omega)
 ·have q0 := int_beq_f h0
  cases ha : atomT x.t
  ·rw [ha] at hat
   have HAT := hide hat
   clear hn by_ bx bz hwa hat h0 ha
   go_enter Tryz.func18, Tryz.ntmps18
   go_wp2_with fail
   rw [← HWE.out]
   go_wp2_with (first
    | (go_at_call 27; (with_reducible refine (HKV.out _).mono ?_); rintro e w1 ⟨rfl, hg1⟩; have HGA1 := hide hg1; clear hg1 c0 c1 c2 c3 e0 e1 e2 e3; obtain ⟨c0, c1, c2, c3⟩ := c4k (blk_keep HBX.out HGA1.out (by simp)); obtain ⟨e0, e1, e2, e3⟩ := c4k (blk_keep HBY.out HGA1.out (by simp)))
    | (go_at_call 42; (with_reducible refine (HAT.out _).mono ?_); rintro e w2 ⟨rfl, hg2⟩; have HGA2 := hide (gb_trans HGA1.out hg2 (.inl rfl)); clear hg2 c0 c1 c2 c3 e0 e1 e2 e3; obtain ⟨c0, c1, c2, c3⟩ := c4k (blk_keep HBX.out HGA2.out (by simp)); obtain ⟨e0, e1, e2, e3⟩ := c4k (blk_keep HBY.out HGA2.out (by simp)); have hrr := blk_keep HBZ.out HGA2.out (by simp); have HRR := hide hrr; obtain ⟨z0, z1, z2, z3, y0, y1, y2, y3⟩ := zz4 hrr; clear hrr))
   obtain ⟨m0, m1, m2, m3⟩ := C4.put HRR.out (.int .i64 0) (.slice none 0 0) (.slice none 0 0) (.slice none 0 0)
   simp only [put4, Nat.zero_add] at m0 m1 m2 m3
   refine bodyPost_ret (v := .tuple #[.agg #[.int .i64 0, .slice none 0 0, .slice none 0 0, .slice none 0 0], .int .i64 31]) (by simp [results, Tryz.results18, go_sem, m0, m1, m2, m3]) rfl ⟨rfl, ?_⟩
   exact put4_to (gb_trans HG.out HGA2.out (.inl rfl)) (by omega)
  ·rw [ha] at hat
   have HAT := hide hat
   have hk : kx ≠ kv := by
    rcases hn with h | h | h
    ·exact absurd h h0
    ·rw [ha] at h; cases h
    ·exact h
   have q3 : (kx != kv) = true := bne_iff_ne.2 hk
   clear hn by_ bx bz hwa hat h0 ha hk
   go_enter Tryz.func18, Tryz.ntmps18
   go_wp2_with fail
   rw [← HWE.out]
   go_wp2_with (first
    | (go_at_call 27; (with_reducible refine (HKV.out _).mono ?_); rintro e w1 ⟨rfl, hg1⟩; have HGA1 := hide hg1; clear hg1 c0 c1 c2 c3 e0 e1 e2 e3; obtain ⟨c0, c1, c2, c3⟩ := c4k (blk_keep HBX.out HGA1.out (by simp)); obtain ⟨e0, e1, e2, e3⟩ := c4k (blk_keep HBY.out HGA1.out (by simp)))
    | (go_at_call 42; (with_reducible refine (HAT.out _).mono ?_); rintro e w2 ⟨rfl, hg2⟩; have HGA2 := hide (gb_trans HGA1.out hg2 (.inl rfl)); clear hg2 c0 c1 c2 c3 e0 e1 e2 e3; obtain ⟨c0, c1, c2, c3⟩ := c4k (blk_keep HBX.out HGA2.out (by simp)); obtain ⟨e0, e1, e2, e3⟩ := c4k (blk_keep HBY.out HGA2.out (by simp)))
    | (go_at_call 27; (with_reducible refine (HKX.out _).mono ?_); rintro e w3 ⟨rfl, hg3⟩; have HGA3 := hide (gb_trans HGA2.out hg3 (.inl rfl)); clear hg3 c0 c1 c2 c3 e0 e1 e2 e3; obtain ⟨c0, c1, c2, c3⟩ := c4k (blk_keep HBX.out HGA3.out (by simp)); obtain ⟨e0, e1, e2, e3⟩ := c4k (blk_keep HBY.out HGA3.out (by simp)); have hrr := blk_keep HBZ.out HGA3.out (by simp); have HRR := hide hrr; obtain ⟨z0, z1, z2, z3, y0, y1, y2, y3⟩ := zz4 hrr; clear hrr))
   obtain ⟨m0, m1, m2, m3⟩ := C4.put HRR.out (.int .i64 0) (.slice none 0 0) (.slice none 0 0) (.slice none 0 0)
   simp only [put4, Nat.zero_add] at m0 m1 m2 m3
   refine bodyPost_ret (v := .tuple #[.agg #[.int .i64 0, .slice none 0 0, .slice none 0 0, .slice none 0 0], .int .i64 31]) (by simp [results, Tryz.results18, go_sem, m0, m1, m2, m3]) rfl ⟨rfl, ?_⟩
   exact put4_to (gb_trans HG.out HGA3.out (.inl rfl)) (by omega)
theorem own64_vow {w : World} {t : Int} {l : List Int} {A : Option Addr} {c : Nat} {f : List Nat} (hlc : l.length ≤ c) (h : Own w f A (i64s l)) :
  VOw w (.mk t l [] []) [.int .i64 t, .slice A l.length c, .slice none 0 0, .slice none 0 0] f :=
 ⟨A, c, none, 0, none, 0, [], f, [], [], [], rfl, ⟨hlc, Nat.le_refl _, Nat.le_refl _⟩, ⟨h, .inl ⟨rfl, rfl⟩, .inl ⟨rfl, rfl⟩⟩, ⟨rfl, rfl⟩, by simp⟩
theorem ownS_vow {w : World} {t : Int} {l : List ByteArray} {A : Option Addr} {c : Nat} {f : List Nat} (hlc : l.length ≤ c) (h : Own w f A (strs l)) :
  VOw w (.mk t [] l []) [.int .i64 t, .slice none 0 0, .slice A l.length c, .slice none 0 0] f :=
 ⟨none, 0, A, c, none, 0, [], [], f, [], [], rfl, ⟨Nat.le_refl _, hlc, Nat.le_refl _⟩, ⟨.inl ⟨rfl, rfl⟩, h, .inl ⟨rfl, rfl⟩⟩, ⟨rfl, rfl⟩, by simp⟩
theorem Own.nd {w : World} {f : List Nat} {A : Option Addr} {xs : List Value} (h : Own w f A xs) : f.Nodup := by
 rcases h with ⟨_, rfl⟩ | ⟨b, _, _, rfl, _⟩ <;> simp
set_option maxHeartbeats 8000000 in
set_option maxRecDepth 100000 in
theorem vFill_num (x : Vl) (xnA : Option Addr) (xnc : Nat) (xsA : Option Addr) (xsc : Nat) (xlA : Option Addr) (xlc : Nat) (v : Vl) (w : World) (B : Nat) (nA : Option Addr) (nc : Nat) (sA : Option Addr) (sc : Nat) (lA : Option Addr) (lc : Nat) (q : Int) (hq : x.n = [q]) (hk : kindO v.t v.s.length v.n.length ≠ 0) (hk3 : kindO v.t v.s.length v.n.length ≠ 3) (ha : atomT x.t = true) (hkk : kindO x.t x.s.length x.n.length = kindO v.t v.s.length v.n.length) (ht : v.tot ≤ 1200000000) (hB : B ≤ w.heap.size) (h : VB w B v nA nc sA sc lA lc) (hx : VB w B x xnA xnc xsA xsc xlA xlc) :
  Calls Tryz.prog 18 #[.agg #[.int .i64 x.t, .slice xnA x.n.length xnc, .slice xsA x.s.length xsc, .slice xlA x.l.length xlc], .agg #[.int .i64 v.t, .slice nA v.n.length nc, .slice sA v.s.length sc, .slice lA v.l.length lc]] w (NewE (.mk v.t (v.n.map (filI q)) [] []) w) := by
 obtain ⟨l1, l2, l3, l4⟩ := Vl.lens v ht
 have hxl : x.n.length = 1 := by rw [hq]; rfl
 rw [hxl] at hkk ⊢
 obtain ⟨wa, hwa⟩ : ∃ wa, wa = ((w.alloc (.cells #[.int .i64 x.t, .slice xnA 1 xnc, .slice xsA x.s.length xsc, .slice xlA x.l.length xlc] 26)).alloc (.cells #[.int .i64 v.t, .slice nA v.n.length nc, .slice sA v.s.length sc, .slice lA v.l.length lc] 26)).alloc (.cells #[.int .i64 0, .slice none 0 0, .slice none 0 0, .slice none 0 0] 26) := ⟨_, rfl⟩
 have by_ : wa.heap[w.heap.size]? = some (.cells #[.int .i64 x.t, .slice xnA 1 xnc, .slice xsA x.s.length xsc, .slice xlA x.l.length xlc] 26 (0, 0)) := by rw [hwa]; exact (Below.heap_alloc _ _ _ (by rw [World.size_alloc, World.size_alloc]; omega)).trans ((Below.heap_alloc _ _ _ (by rw [World.size_alloc]; omega)).trans (heap_alloc_new w _))
 have bx : wa.heap[w.heap.size + 1]? = some (.cells #[.int .i64 v.t, .slice nA v.n.length nc, .slice sA v.s.length sc, .slice lA v.l.length lc] 26 (0, 0)) := by rw [hwa]; refine (Below.heap_alloc _ _ _ (by rw [World.size_alloc, World.size_alloc]; omega)).trans ?_; have := heap_alloc_new (w.alloc (.cells #[.int .i64 x.t, .slice xnA 1 xnc, .slice xsA x.s.length xsc, .slice xlA x.l.length xlc] 26)) (.cells #[.int .i64 v.t, .slice nA v.n.length nc, .slice sA v.s.length sc, .slice lA v.l.length lc] 26); rwa [World.size_alloc] at this
 have bz : wa.heap[w.heap.size + 1 + 1]? = some (.cells #[.int .i64 0, .slice none 0 0, .slice none 0 0, .slice none 0 0] 26 (0, 0)) := by rw [hwa]; have := heap_alloc_new ((w.alloc (.cells #[.int .i64 x.t, .slice xnA 1 xnc, .slice xsA x.s.length xsc, .slice xlA x.l.length xlc] 26)).alloc (.cells #[.int .i64 v.t, .slice nA v.n.length nc, .slice sA v.s.length sc, .slice lA v.l.length lc] 26)) (.cells #[.int .i64 0, .slice none 0 0, .slice none 0 0, .slice none 0 0] 26); rwa [World.size_alloc, World.size_alloc] at this
 have HBY := hide by_
 have HBX := hide bx
 have HBZ := hide bz
 have HSZ := hide (show wa.heap.size = w.heap.size + 3 by rw [hwa]; simp)
 have HG := hide (show w.grownBy wa none by rw [hwa]; exact gb_alloc (gb_alloc (gb_alloc (gb_refl w none) _) _) _)
 have HWE := hide hwa
 obtain ⟨c0, c1, c2, c3⟩ := c4k (blk_keep HBX.out (gb_refl wa none) (by simp))
 obtain ⟨e0, e1, e2, e3⟩ := c4k (blk_keep HBY.out (gb_refl wa none) (by simp))
 have HKV := hide (fun w2 => kind_any v.t nA v.n.length nc sA v.s.length sc (.slice lA v.l.length lc) w2)
 have HKX := hide (fun w2 => kind_any x.t xnA 1 xnc xsA x.s.length xsc (.slice xlA x.l.length xlc) w2)
 have hat := fun w2 => isAtom_any x.t (.slice xnA 1 xnc) (.slice xsA x.s.length xsc) (.slice xlA x.l.length xlc) w2
 rw [ha] at hat
 have HAT := hide hat
 have HFL := hide (fun (w2 : World) (hg : w.grownBy w2 none) => fillI_any v.n q w2 B nA nc l1 (Nat.le_trans hB hg.size) ((h.gb hg hB).n))
 have hxr := (hx.gb HG.out hB).n
 rw [hq] at hxr
 obtain ⟨eb, eo, hea, _, hec⟩ := hxr.lay (by simp [i64s])
 have hel : wa.cell? ⟨eb, eo, none⟩ = some (.int .i64 q) := hec 0 _ rfl
 have HEL := hide hel
 subst hea
 generalize hkx : kindO x.t x.s.length 1 = kx at *
 clear hkx
 subst hkk
 generalize kindO v.t v.s.length v.n.length = kv at *
 have q0 := int_beq_f hk
 have q3 : (kv != kv) = false := by simp
 have q4 : (kv == 3) = false := int_beq_f hk3
 obtain ⟨ml, hml⟩ : ∃ ml, ml = v.n.map (filI q) := ⟨_, rfl⟩
 rw [← hml] at HFL ⊢
 clear hk hk3 ha ht hB h hx by_ bx bz hwa hat hq hec hel hml l1 l2 l3 l4 hxr hxl
 go_enter Tryz.func18, Tryz.ntmps18
 go_wp2_with fail
 rw [← HWE.out]
 go_upto_region 6 with (first
  | (go_at_call 27; (with_reducible refine (HKV.out _).mono ?_); rintro e w1 ⟨rfl, hg1⟩; have HGA1 := hide hg1; clear hg1 c0 c1 c2 c3 e0 e1 e2 e3; obtain ⟨c0, c1, c2, c3⟩ := c4k (blk_keep HBX.out HGA1.out (by simp)); obtain ⟨e0, e1, e2, e3⟩ := c4k (blk_keep HBY.out HGA1.out (by simp)))
  | (go_at_call 42; (with_reducible refine (HAT.out _).mono ?_); rintro e w2 ⟨rfl, hg2⟩; have HGA2 := hide (gb_trans HGA1.out hg2 (.inl rfl)); clear hg2 c0 c1 c2 c3 e0 e1 e2 e3; obtain ⟨c0, c1, c2, c3⟩ := c4k (blk_keep HBX.out HGA2.out (by simp)); obtain ⟨e0, e1, e2, e3⟩ := c4k (blk_keep HBY.out HGA2.out (by simp)))
  | (go_at_call 27; (with_reducible refine (HKX.out _).mono ?_); rintro e w3 ⟨rfl, hg3⟩; have HGA3 := hide (gb_trans HGA2.out hg3 (.inl rfl)); clear hg3 c0 c1 c2 c3 e0 e1 e2 e3; obtain ⟨c0, c1, c2, c3⟩ := c4k (blk_keep HBX.out HGA3.out (by simp)); obtain ⟨e0, e1, e2, e3⟩ := c4k (blk_keep HBY.out HGA3.out (by simp))))
 have el : w3.cell? ⟨eb, eo, none⟩ = some (.int .i64 q) := cell_gb HEL.out HGA3.out
 go_region_law ((go_simp; go_at_call 44; refine (HFL.out w3.drew (gb_trans HG.out (gb_drew HGA3.out) (.inl rfl))).mono ?_; rintro e w4 ⟨fA, fc, f, rfl, hfc, ho, hfb, hg4⟩; have HG4 := hide (show w3.grownBy w4 none from ⟨hg4.os, hg4.tape, hg4.output, hg4.size, hg4.block⟩); have HFC := hide hfc; have HO4 := hide ho; have HFB := hide (show ∀ b ∈ f, w3.heap.size ≤ b ∧ b < w4.heap.size from hfb); have HGX := hide (gb_trans HGA3.out HG4.out (.inl rfl)); clear hg4 hfc ho hfb c0 c1 c2 c3 e0 e1 e2 e3 el; obtain ⟨c0, c1, c2, c3⟩ := c4k (blk_keep HBX.out HGX.out (by simp)); obtain ⟨e0, e1, e2, e3⟩ := c4k (blk_keep HBY.out HGX.out (by simp)); have hrr := blk_keep HBZ.out HGX.out (by simp); have HRR := hide hrr; obtain ⟨z0, z1, z2, z3, y0, y1, y2, y3⟩ := zz4 hrr; clear hrr))
 all_goals
  go_wp2_with fail
  have HFIN := NewE.fin (x := .mk v.t ml [] []) (wa := w3) (g := w.heap.size + 1 + 1) (own64_vow HFC.out HO4.out) ⟨HO4.out.nd, HFB.out⟩ (gb_trans HG.out HGA3.out (.inl rfl)) HG4.out (by omega) (by have := HSZ.out; have := HGA3.out.size; omega)
  obtain ⟨m0, m1, m2, m3⟩ := C4.put HRR.out (.int .i64 v.t) (.slice fA ml.length fc) (.slice none 0 0) (.slice none 0 0)
  simp only [put4, Nat.zero_add] at m0 m1 m2 m3
  refine bodyPost_ret (v := .tuple #[.agg #[.int .i64 v.t, .slice fA ml.length fc, .slice none 0 0, .slice none 0 0], .int .i64 0]) (by simp [results, Tryz.results18, go_sem, m0, m1, m2, m3]) rfl ?_
  exact HFIN
set_option maxHeartbeats 8000000 in
set_option maxRecDepth 100000 in
theorem vFill_sym (x : Vl) (xnA : Option Addr) (xnc : Nat) (xsA : Option Addr) (xsc : Nat) (xlA : Option Addr) (xlc : Nat) (v : Vl) (w : World) (B : Nat) (nA : Option Addr) (nc : Nat) (sA : Option Addr) (sc : Nat) (lA : Option Addr) (lc : Nat) (q : ByteArray) (hq : x.s = [q]) (hk : kindO v.t v.s.length v.n.length ≠ 0) (hk3 : kindO v.t v.s.length v.n.length = 3) (ha : atomT x.t = true) (hkk : kindO x.t x.s.length x.n.length = kindO v.t v.s.length v.n.length) (ht : v.tot ≤ 1200000000) (hB : B ≤ w.heap.size) (h : VB w B v nA nc sA sc lA lc) (hx : VB w B x xnA xnc xsA xsc xlA xlc) :
  Calls Tryz.prog 18 #[.agg #[.int .i64 x.t, .slice xnA x.n.length xnc, .slice xsA x.s.length xsc, .slice xlA x.l.length xlc], .agg #[.int .i64 v.t, .slice nA v.n.length nc, .slice sA v.s.length sc, .slice lA v.l.length lc]] w (NewE (.mk v.t [] (v.s.map (filS q)) []) w) := by
 obtain ⟨l1, l2, l3, l4⟩ := Vl.lens v ht
 have hxl : x.s.length = 1 := by rw [hq]; rfl
 rw [hxl] at hkk ⊢
 obtain ⟨wa, hwa⟩ : ∃ wa, wa = ((w.alloc (.cells #[.int .i64 x.t, .slice xnA x.n.length xnc, .slice xsA 1 xsc, .slice xlA x.l.length xlc] 26)).alloc (.cells #[.int .i64 v.t, .slice nA v.n.length nc, .slice sA v.s.length sc, .slice lA v.l.length lc] 26)).alloc (.cells #[.int .i64 0, .slice none 0 0, .slice none 0 0, .slice none 0 0] 26) := ⟨_, rfl⟩
 have by_ : wa.heap[w.heap.size]? = some (.cells #[.int .i64 x.t, .slice xnA x.n.length xnc, .slice xsA 1 xsc, .slice xlA x.l.length xlc] 26 (0, 0)) := by rw [hwa]; exact (Below.heap_alloc _ _ _ (by rw [World.size_alloc, World.size_alloc]; omega)).trans ((Below.heap_alloc _ _ _ (by rw [World.size_alloc]; omega)).trans (heap_alloc_new w _))
 have bx : wa.heap[w.heap.size + 1]? = some (.cells #[.int .i64 v.t, .slice nA v.n.length nc, .slice sA v.s.length sc, .slice lA v.l.length lc] 26 (0, 0)) := by rw [hwa]; refine (Below.heap_alloc _ _ _ (by rw [World.size_alloc, World.size_alloc]; omega)).trans ?_; have := heap_alloc_new (w.alloc (.cells #[.int .i64 x.t, .slice xnA x.n.length xnc, .slice xsA 1 xsc, .slice xlA x.l.length xlc] 26)) (.cells #[.int .i64 v.t, .slice nA v.n.length nc, .slice sA v.s.length sc, .slice lA v.l.length lc] 26); rwa [World.size_alloc] at this
 have bz : wa.heap[w.heap.size + 1 + 1]? = some (.cells #[.int .i64 0, .slice none 0 0, .slice none 0 0, .slice none 0 0] 26 (0, 0)) := by rw [hwa]; have := heap_alloc_new ((w.alloc (.cells #[.int .i64 x.t, .slice xnA x.n.length xnc, .slice xsA 1 xsc, .slice xlA x.l.length xlc] 26)).alloc (.cells #[.int .i64 v.t, .slice nA v.n.length nc, .slice sA v.s.length sc, .slice lA v.l.length lc] 26)) (.cells #[.int .i64 0, .slice none 0 0, .slice none 0 0, .slice none 0 0] 26); rwa [World.size_alloc, World.size_alloc] at this
 have HBY := hide by_
 have HBX := hide bx
 have HBZ := hide bz
 have HSZ := hide (show wa.heap.size = w.heap.size + 3 by rw [hwa]; simp)
 have HG := hide (show w.grownBy wa none by rw [hwa]; exact gb_alloc (gb_alloc (gb_alloc (gb_refl w none) _) _) _)
 have HWE := hide hwa
 obtain ⟨c0, c1, c2, c3⟩ := c4k (blk_keep HBX.out (gb_refl wa none) (by simp))
 obtain ⟨e0, e1, e2, e3⟩ := c4k (blk_keep HBY.out (gb_refl wa none) (by simp))
 have HKV := hide (fun w2 => kind_any v.t nA v.n.length nc sA v.s.length sc (.slice lA v.l.length lc) w2)
 have HKX := hide (fun w2 => kind_any x.t xnA x.n.length xnc xsA 1 xsc (.slice xlA x.l.length xlc) w2)
 have hat := fun w2 => isAtom_any x.t (.slice xnA x.n.length xnc) (.slice xsA 1 xsc) (.slice xlA x.l.length xlc) w2
 rw [ha] at hat
 have HAT := hide hat
 have HFL := hide (fun (w2 : World) (hg : w.grownBy w2 none) => fillS_any v.s q w2 B sA sc l2 (Nat.le_trans hB hg.size) ((h.gb hg hB).s))
 have hxr := (hx.gb HG.out hB).s
 rw [hq] at hxr
 obtain ⟨eb, eo, hea, _, hec⟩ := hxr.lay (by simp [strs])
 have hel : wa.cell? ⟨eb, eo, none⟩ = some (.string q) := hec 0 _ rfl
 have HEL := hide hel
 subst hea
 generalize hkx : kindO x.t 1 x.n.length = kx at *
 clear hkx
 subst hkk
 generalize kindO v.t v.s.length v.n.length = kv at *
 have q0 := int_beq_f hk
 have q3 : (kv != kv) = false := by simp
 have q4 : (kv == 3) = true := int_beq_t hk3
 obtain ⟨ml, hml⟩ : ∃ ml, ml = v.s.map (filS q) := ⟨_, rfl⟩
 rw [← hml] at HFL ⊢
 clear hk hk3 ha ht hB h hx by_ bx bz hwa hat hq hec hel hml l1 l2 l3 l4 hxr hxl
 go_enter Tryz.func18, Tryz.ntmps18
 go_wp2_with fail
 rw [← HWE.out]
 go_upto_region 5 with (first
  | (go_at_call 27; (with_reducible refine (HKV.out _).mono ?_); rintro e w1 ⟨rfl, hg1⟩; have HGA1 := hide hg1; clear hg1 c0 c1 c2 c3 e0 e1 e2 e3; obtain ⟨c0, c1, c2, c3⟩ := c4k (blk_keep HBX.out HGA1.out (by simp)); obtain ⟨e0, e1, e2, e3⟩ := c4k (blk_keep HBY.out HGA1.out (by simp)))
  | (go_at_call 42; (with_reducible refine (HAT.out _).mono ?_); rintro e w2 ⟨rfl, hg2⟩; have HGA2 := hide (gb_trans HGA1.out hg2 (.inl rfl)); clear hg2 c0 c1 c2 c3 e0 e1 e2 e3; obtain ⟨c0, c1, c2, c3⟩ := c4k (blk_keep HBX.out HGA2.out (by simp)); obtain ⟨e0, e1, e2, e3⟩ := c4k (blk_keep HBY.out HGA2.out (by simp)))
  | (go_at_call 27; (with_reducible refine (HKX.out _).mono ?_); rintro e w3 ⟨rfl, hg3⟩; have HGA3 := hide (gb_trans HGA2.out hg3 (.inl rfl)); clear hg3 c0 c1 c2 c3 e0 e1 e2 e3; obtain ⟨c0, c1, c2, c3⟩ := c4k (blk_keep HBX.out HGA3.out (by simp)); obtain ⟨e0, e1, e2, e3⟩ := c4k (blk_keep HBY.out HGA3.out (by simp))))
 have el : w3.cell? ⟨eb, eo, none⟩ = some (.string q) := cell_gb HEL.out HGA3.out
 go_region_law ((go_simp; go_at_call 43; refine (HFL.out w3.drew (gb_trans HG.out (gb_drew HGA3.out) (.inl rfl))).mono ?_; rintro e w4 ⟨fA, fc, f, rfl, hfc, ho, hfb, hg4⟩; have HG4 := hide (show w3.grownBy w4 none from ⟨hg4.os, hg4.tape, hg4.output, hg4.size, hg4.block⟩); have HFC := hide hfc; have HO4 := hide ho; have HFB := hide (show ∀ b ∈ f, w3.heap.size ≤ b ∧ b < w4.heap.size from hfb); have HGX := hide (gb_trans HGA3.out HG4.out (.inl rfl)); clear hg4 hfc ho hfb c0 c1 c2 c3 e0 e1 e2 e3 el; obtain ⟨c0, c1, c2, c3⟩ := c4k (blk_keep HBX.out HGX.out (by simp)); obtain ⟨e0, e1, e2, e3⟩ := c4k (blk_keep HBY.out HGX.out (by simp)); have hrr := blk_keep HBZ.out HGX.out (by simp); have HRR := hide hrr; obtain ⟨z0, z1, z2, z3, y0, y1, y2, y3⟩ := zz4 hrr; clear hrr))
 all_goals
  go_wp2_with fail
  have HFIN := NewE.fin (x := .mk v.t [] ml []) (wa := w3) (g := w.heap.size + 1 + 1) (ownS_vow HFC.out HO4.out) ⟨HO4.out.nd, HFB.out⟩ (gb_trans HG.out HGA3.out (.inl rfl)) HG4.out (by omega) (by have := HSZ.out; have := HGA3.out.size; omega)
  obtain ⟨m0, m1, m2, m3⟩ := C4.put HRR.out (.int .i64 v.t) (.slice none 0 0) (.slice fA ml.length fc) (.slice none 0 0)
  simp only [put4, Nat.zero_add] at m0 m1 m2 m3
  refine bodyPost_ret (v := .tuple #[.agg #[.int .i64 v.t, .slice none 0 0, .slice fA ml.length fc, .slice none 0 0], .int .i64 0]) (by simp [results, Tryz.results18, go_sem, m0, m1, m2, m3]) rfl ?_
  exact HFIN
end Go.Proofs.YtbmgodmfpoappaaGreat
