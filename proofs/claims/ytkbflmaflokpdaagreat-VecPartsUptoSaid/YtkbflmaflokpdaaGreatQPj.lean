/-
  vec.Index, Reverse, Take and Drop of what is no vector or list; Take of too many.
-/
import Derived.Test.YtkbflmaflokpdaaGreatQLs

namespace Go.Proofs.YtkbflmaflokpdaaGreat
open Go.RowKit
attribute [local go_sem ↓] Go.wp_at_zero Go.wp_at_succ

theorem kindO_no {t : Int} (h : ¬ seqT t) (s n : Nat) : (kindO t s n == t) = false := by
  have h1 : t ≠ 0 := fun e => h (.inr (.inr e))
  have h2 : t ≠ 3 := fun e => h (.inr (.inl e))
  rw [beq_eq_false_iff_ne]
  unfold kindO
  by_cases c1 : t = 3 ∨ (t = -3 ∧ s = 1)
  · rw [if_pos c1]; omega
  rw [if_neg c1]
  by_cases c2 : hasN t = true ∧ (0 < t ∨ n = 1)
  · rw [if_pos c2]
    have h3 : ¬ 0 < t := by
      intro h0
      have h4 := c2.1
      unfold hasN at h4
      simp only [Bool.or_eq_true, beq_iff_eq] at h4
      apply h
      unfold seqT numT
      omega
    omega
  · rw [if_neg c2]; omega
theorem count_bd {v : Vl} (h : checkV v = 0) : v.count ≤ 65536 := by
  have hf : faultsV v = 0 := by
    unfold checkV at h
    by_cases h0 : faultsV v = 0
    · exact h0
    · rw [if_neg h0] at h; exact h
  suffices ∀ (d : Nat) (v : Vl), partsV d v = 0 → v.depth ≤ d + 1 → v.count ≤ 65536 by
    have hd : v.depth ≤ 32 := by
      unfold checkV at h
      rw [if_pos hf] at h
      by_cases h0 : 32 < v.depth
      · rw [if_pos h0] at h; cases h
      · omega
    exact this 1048576 v hf (by omega)
  intro d
  induction d with
  | zero =>
    intro v hv hd
    have ho := own_zero hv
    obtain ⟨h1, h2, h3, h4, h5⟩ := own_parts ho
    have hl : v.l = [] := by
      rw [Vl.depth_def] at hd
      rcases hl : v.l with _ | ⟨a, r⟩
      · rfl
      · rw [hl] at hd
        have := Vl.depth_def a
        simp only [Vl.depths] at hd
        omega
    by_cases hs : seqT v.t
    · have hm := h2
      unfold manyV at hm
      rw [if_neg (by rcases hs with (h | h | h | h) | h | h <;> omega)] at hm
      have hq : isSeq v = true := by
        unfold isSeq hasN hasS
        rcases hs with (h | h | h | h) | h | h <;> rw [h] <;> rfl
      rw [hq, Bool.true_and] at hm
      have := of_decide_eq_false hm
      omega
    · rw [Vl.count_def, if_neg (show ¬ (v.t = 1 ∨ v.t = 2 ∨ v.t = 4 ∨ v.t = 5) from fun e => hs (.inl e)), if_neg (fun e => hs (.inr (.inl e))), if_neg (fun e => hs (.inr (.inr e))), hl]
      split <;> simp [Vl.countH]
  | succ d ih =>
    intro v hv hd
    have ho := own_zero hv
    obtain ⟨h1, h2, h3, h4, h5⟩ := own_parts ho
    by_cases hs : seqT v.t
    · have hm := h2
      unfold manyV at hm
      rw [if_neg (by rcases hs with (h | h | h | h) | h | h <;> omega)] at hm
      have hq : isSeq v = true := by
        unfold isSeq hasN hasS
        rcases hs with (h | h | h | h) | h | h <;> rw [h] <;> rfl
      rw [hq, Bool.true_and] at hm
      have := of_decide_eq_false hm
      omega
    · rw [partsV_succ ho] at hv
      rw [Vl.count_def, if_neg (show ¬ (v.t = 1 ∨ v.t = 2 ∨ v.t = 4 ∨ v.t = 5) from fun e => hs (.inl e)), if_neg (fun e => hs (.inr (.inl e))), if_neg (fun e => hs (.inr (.inr e)))]
      split
      · rcases hl : v.l with _ | ⟨a, r⟩
        · simp [Vl.countH]
        · have ha := firstE_zero hv a (by rw [hl]; simp)
          have := Vl.depth_lt (v := v) (x := a) (by rw [hl]; simp)
          exact ih a ha (by omega)
      · omega
set_option maxHeartbeats 4000000 in
set_option maxRecDepth 100000 in
theorem index_err (x : Vl) (hs : ¬ seqT x.t) (nA : Option Addr) (nc : Nat) (sA : Option Addr) (sc : Nat) (lA : Option Addr) (lc : Nat) (qs : Value) (w : World) : Calls Tryz.prog 17 #[.agg #[.int .i64 x.t, .slice nA x.n.length nc, .slice sA x.s.length sc, .slice lA x.l.length lc], qs] w (ErrV 31 w) := by
  obtain ⟨wa, hwa⟩ : ∃ wa, wa = (w.alloc (.cells #[.int .i64 x.t, .slice nA x.n.length nc, .slice sA x.s.length sc, .slice lA x.l.length lc] 26)).alloc (.cells #[.int .i64 0, .slice none 0 0, .slice none 0 0, .slice none 0 0] 26) := ⟨_, rfl⟩
  have bx : wa.heap[w.heap.size]? = some (.cells #[.int .i64 x.t, .slice nA x.n.length nc, .slice sA x.s.length sc, .slice lA x.l.length lc] 26 (0, 0)) := by rw [hwa]; exact (Below.heap_alloc _ _ _ (by rw [World.size_alloc]; omega)).trans (heap_alloc_new w _)
  have bz : wa.heap[w.heap.size + 1]? = some (.cells #[.int .i64 0, .slice none 0 0, .slice none 0 0, .slice none 0 0] 26 (0, 0)) := by rw [hwa]; have := heap_alloc_new (w.alloc (.cells #[.int .i64 x.t, .slice nA x.n.length nc, .slice sA x.s.length sc, .slice lA x.l.length lc] 26)) (.cells #[.int .i64 0, .slice none 0 0, .slice none 0 0, .slice none 0 0] 26); rwa [World.size_alloc] at this
  have HBX := hide bx
  have HBZ := hide bz
  have HG0 := hide (show w.grownBy wa none by rw [hwa]; exact gb_alloc (gb_alloc (gb_refl w none) _) _)
  have HWE := hide hwa
  obtain ⟨c0, c1, c2, c3⟩ : C4 wa w.heap.size 0 (.int .i64 x.t) (.slice nA x.n.length nc) (.slice sA x.s.length sc) (.slice lA x.l.length lc) := ⟨by rw [blk_cell bx]; rfl, by rw [blk_cell bx]; rfl, by rw [blk_cell bx]; rfl, by rw [blk_cell bx]; rfl⟩
  have HQ := hide (kindO_no hs x.s.length x.n.length)
  clear bx bz hwa hs
  go_enter Tryz.func17, Tryz.ntmps17
  go_wp2_with fail
  rw [← HWE.out]
  go_wp2_with (go_at_call 32; refine (isSeq_any _ _ _ _ _ _ _ _ _).mono ?_; rintro e w1 ⟨rfl, hg1⟩; have hqq := HQ.out; have hrr := blk_keep HBZ.out hg1 (by simp); have HG1 := hide (gb_trans HG0.out hg1 (.inl rfl)); have HR3 := hide hrr; have z0 := blk_frozen hrr 0; have z1 := blk_frozen hrr 1; have z2 := blk_frozen hrr 2; have z3 := blk_frozen hrr 3; have p0 : w1.cell? ⟨w.heap.size + 1, 0, none⟩ = some (.int .i64 0) := (by { rw [blk_cell hrr]; rfl }); have p1 : w1.cell? ⟨w.heap.size + 1, 1, none⟩ = some (.slice none 0 0) := (by { rw [blk_cell hrr]; rfl }); have p2 : w1.cell? ⟨w.heap.size + 1, 2, none⟩ = some (.slice none 0 0) := (by { rw [blk_cell hrr]; rfl }); have p3 : w1.cell? ⟨w.heap.size + 1, 3, none⟩ = some (.slice none 0 0) := (by { rw [blk_cell hrr]; rfl }); clear hg1 hrr)
  obtain ⟨m0, m1, m2, m3⟩ := C4.put HR3.out (.int .i64 0) (.slice none 0 0) (.slice none 0 0) (.slice none 0 0)
  simp only [put4, Nat.zero_add] at m0 m1 m2 m3
  refine bodyPost_ret (v := .tuple #[.agg #[.int .i64 0, .slice none 0 0, .slice none 0 0, .slice none 0 0], .int .i64 31]) (by simp [results, Tryz.results17, go_sem, m0, m1, m2, m3]) rfl ⟨rfl, ?_⟩
  exact put4_to HG1.out (by omega)
set_option maxHeartbeats 4000000 in
set_option maxRecDepth 100000 in
theorem take_err (n : Int) (x : Vl) (hs : ¬ seqT x.t) (nA : Option Addr) (nc : Nat) (sA : Option Addr) (sc : Nat) (lA : Option Addr) (lc : Nat) (w : World) : Calls Tryz.prog 13 #[.int .i64 n, .agg #[.int .i64 x.t, .slice nA x.n.length nc, .slice sA x.s.length sc, .slice lA x.l.length lc]] w (ErrV 31 w) := by
  obtain ⟨wa, hwa⟩ : ∃ wa, wa = (w.alloc (.cells #[.int .i64 x.t, .slice nA x.n.length nc, .slice sA x.s.length sc, .slice lA x.l.length lc] 26)).alloc (.cells #[.int .i64 0, .slice none 0 0, .slice none 0 0, .slice none 0 0] 26) := ⟨_, rfl⟩
  have bx : wa.heap[w.heap.size]? = some (.cells #[.int .i64 x.t, .slice nA x.n.length nc, .slice sA x.s.length sc, .slice lA x.l.length lc] 26 (0, 0)) := by rw [hwa]; exact (Below.heap_alloc _ _ _ (by rw [World.size_alloc]; omega)).trans (heap_alloc_new w _)
  have bz : wa.heap[w.heap.size + 1]? = some (.cells #[.int .i64 0, .slice none 0 0, .slice none 0 0, .slice none 0 0] 26 (0, 0)) := by rw [hwa]; have := heap_alloc_new (w.alloc (.cells #[.int .i64 x.t, .slice nA x.n.length nc, .slice sA x.s.length sc, .slice lA x.l.length lc] 26)) (.cells #[.int .i64 0, .slice none 0 0, .slice none 0 0, .slice none 0 0] 26); rwa [World.size_alloc] at this
  have HBX := hide bx
  have HBZ := hide bz
  have HG0 := hide (show w.grownBy wa none by rw [hwa]; exact gb_alloc (gb_alloc (gb_refl w none) _) _)
  have HWE := hide hwa
  obtain ⟨c0, c1, c2, c3⟩ : C4 wa w.heap.size 0 (.int .i64 x.t) (.slice nA x.n.length nc) (.slice sA x.s.length sc) (.slice lA x.l.length lc) := ⟨by rw [blk_cell bx]; rfl, by rw [blk_cell bx]; rfl, by rw [blk_cell bx]; rfl, by rw [blk_cell bx]; rfl⟩
  have HQ := hide (kindO_no hs x.s.length x.n.length)
  clear bx bz hwa hs
  go_enter Tryz.func13, Tryz.ntmps13
  go_wp2_with fail
  rw [← HWE.out]
  go_wp2_with (go_at_call 32; refine (isSeq_any _ _ _ _ _ _ _ _ _).mono ?_; rintro e w1 ⟨rfl, hg1⟩; have hqq := HQ.out; have hrr := blk_keep HBZ.out hg1 (by simp); have HG1 := hide (gb_trans HG0.out hg1 (.inl rfl)); have HR3 := hide hrr; have z0 := blk_frozen hrr 0; have z1 := blk_frozen hrr 1; have z2 := blk_frozen hrr 2; have z3 := blk_frozen hrr 3; have p0 : w1.cell? ⟨w.heap.size + 1, 0, none⟩ = some (.int .i64 0) := (by { rw [blk_cell hrr]; rfl }); have p1 : w1.cell? ⟨w.heap.size + 1, 1, none⟩ = some (.slice none 0 0) := (by { rw [blk_cell hrr]; rfl }); have p2 : w1.cell? ⟨w.heap.size + 1, 2, none⟩ = some (.slice none 0 0) := (by { rw [blk_cell hrr]; rfl }); have p3 : w1.cell? ⟨w.heap.size + 1, 3, none⟩ = some (.slice none 0 0) := (by { rw [blk_cell hrr]; rfl }); clear hg1 hrr)
  obtain ⟨m0, m1, m2, m3⟩ := C4.put HR3.out (.int .i64 0) (.slice none 0 0) (.slice none 0 0) (.slice none 0 0)
  simp only [put4, Nat.zero_add] at m0 m1 m2 m3
  refine bodyPost_ret (v := .tuple #[.agg #[.int .i64 0, .slice none 0 0, .slice none 0 0, .slice none 0 0], .int .i64 31]) (by simp [results, Tryz.results13, go_sem, m0, m1, m2, m3]) rfl ⟨rfl, ?_⟩
  exact put4_to HG1.out (by omega)
set_option maxHeartbeats 4000000 in
set_option maxRecDepth 100000 in
theorem take_over (n : Int) (hb1 : 65536 < n) (x : Vl) (hs : seqT x.t) (nA : Option Addr) (nc : Nat) (sA : Option Addr) (sc : Nat) (lA : Option Addr) (lc : Nat) (w : World) : Calls Tryz.prog 13 #[.int .i64 n, .agg #[.int .i64 x.t, .slice nA x.n.length nc, .slice sA x.s.length sc, .slice lA x.l.length lc]] w (ErrV 6 w) := by
  obtain ⟨wa, hwa⟩ : ∃ wa, wa = (w.alloc (.cells #[.int .i64 x.t, .slice nA x.n.length nc, .slice sA x.s.length sc, .slice lA x.l.length lc] 26)).alloc (.cells #[.int .i64 0, .slice none 0 0, .slice none 0 0, .slice none 0 0] 26) := ⟨_, rfl⟩
  have bx : wa.heap[w.heap.size]? = some (.cells #[.int .i64 x.t, .slice nA x.n.length nc, .slice sA x.s.length sc, .slice lA x.l.length lc] 26 (0, 0)) := by rw [hwa]; exact (Below.heap_alloc _ _ _ (by rw [World.size_alloc]; omega)).trans (heap_alloc_new w _)
  have bz : wa.heap[w.heap.size + 1]? = some (.cells #[.int .i64 0, .slice none 0 0, .slice none 0 0, .slice none 0 0] 26 (0, 0)) := by rw [hwa]; have := heap_alloc_new (w.alloc (.cells #[.int .i64 x.t, .slice nA x.n.length nc, .slice sA x.s.length sc, .slice lA x.l.length lc] 26)) (.cells #[.int .i64 0, .slice none 0 0, .slice none 0 0, .slice none 0 0] 26); rwa [World.size_alloc] at this
  have HBX := hide bx
  have HBZ := hide bz
  have HG0 := hide (show w.grownBy wa none by rw [hwa]; exact gb_alloc (gb_alloc (gb_refl w none) _) _)
  have HWE := hide hwa
  obtain ⟨c0, c1, c2, c3⟩ : C4 wa w.heap.size 0 (.int .i64 x.t) (.slice nA x.n.length nc) (.slice sA x.s.length sc) (.slice lA x.l.length lc) := ⟨by rw [blk_cell bx]; rfl, by rw [blk_cell bx]; rfl, by rw [blk_cell bx]; rfl, by rw [blk_cell bx]; rfl⟩
  have HQ := hide (seqT.kind (x := x) hs)
  clear bx bz hwa hs
  go_enter Tryz.func13, Tryz.ntmps13
  go_wp2_with fail
  rw [← HWE.out]
  go_wp2_with (go_at_call 32; refine (isSeq_any _ _ _ _ _ _ _ _ _).mono ?_; rintro e w1 ⟨rfl, hg1⟩; have hqq := HQ.out; have hrr := blk_keep HBZ.out hg1 (by simp); have HG1 := hide (gb_trans HG0.out hg1 (.inl rfl)); have HR3 := hide hrr; have z0 := blk_frozen hrr 0; have z1 := blk_frozen hrr 1; have z2 := blk_frozen hrr 2; have z3 := blk_frozen hrr 3; have p0 : w1.cell? ⟨w.heap.size + 1, 0, none⟩ = some (.int .i64 0) := (by { rw [blk_cell hrr]; rfl }); have p1 : w1.cell? ⟨w.heap.size + 1, 1, none⟩ = some (.slice none 0 0) := (by { rw [blk_cell hrr]; rfl }); have p2 : w1.cell? ⟨w.heap.size + 1, 2, none⟩ = some (.slice none 0 0) := (by { rw [blk_cell hrr]; rfl }); have p3 : w1.cell? ⟨w.heap.size + 1, 3, none⟩ = some (.slice none 0 0) := (by { rw [blk_cell hrr]; rfl }); clear hg1 hrr)
  obtain ⟨m0, m1, m2, m3⟩ := C4.put HR3.out (.int .i64 0) (.slice none 0 0) (.slice none 0 0) (.slice none 0 0)
  simp only [put4, Nat.zero_add] at m0 m1 m2 m3
  refine bodyPost_ret (v := .tuple #[.agg #[.int .i64 0, .slice none 0 0, .slice none 0 0, .slice none 0 0], .int .i64 6]) (by simp [results, Tryz.results13, go_sem, m0, m1, m2, m3]) rfl ⟨rfl, ?_⟩
  exact put4_to HG1.out (by omega)
set_option maxHeartbeats 4000000 in
set_option maxRecDepth 100000 in
theorem take_under (n : Int) (hb1 : n < -65536) (x : Vl) (hs : seqT x.t) (nA : Option Addr) (nc : Nat) (sA : Option Addr) (sc : Nat) (lA : Option Addr) (lc : Nat) (w : World) : Calls Tryz.prog 13 #[.int .i64 n, .agg #[.int .i64 x.t, .slice nA x.n.length nc, .slice sA x.s.length sc, .slice lA x.l.length lc]] w (ErrV 6 w) := by
  obtain ⟨wa, hwa⟩ : ∃ wa, wa = (w.alloc (.cells #[.int .i64 x.t, .slice nA x.n.length nc, .slice sA x.s.length sc, .slice lA x.l.length lc] 26)).alloc (.cells #[.int .i64 0, .slice none 0 0, .slice none 0 0, .slice none 0 0] 26) := ⟨_, rfl⟩
  have bx : wa.heap[w.heap.size]? = some (.cells #[.int .i64 x.t, .slice nA x.n.length nc, .slice sA x.s.length sc, .slice lA x.l.length lc] 26 (0, 0)) := by rw [hwa]; exact (Below.heap_alloc _ _ _ (by rw [World.size_alloc]; omega)).trans (heap_alloc_new w _)
  have bz : wa.heap[w.heap.size + 1]? = some (.cells #[.int .i64 0, .slice none 0 0, .slice none 0 0, .slice none 0 0] 26 (0, 0)) := by rw [hwa]; have := heap_alloc_new (w.alloc (.cells #[.int .i64 x.t, .slice nA x.n.length nc, .slice sA x.s.length sc, .slice lA x.l.length lc] 26)) (.cells #[.int .i64 0, .slice none 0 0, .slice none 0 0, .slice none 0 0] 26); rwa [World.size_alloc] at this
  have HBX := hide bx
  have HBZ := hide bz
  have HG0 := hide (show w.grownBy wa none by rw [hwa]; exact gb_alloc (gb_alloc (gb_refl w none) _) _)
  have HWE := hide hwa
  obtain ⟨c0, c1, c2, c3⟩ : C4 wa w.heap.size 0 (.int .i64 x.t) (.slice nA x.n.length nc) (.slice sA x.s.length sc) (.slice lA x.l.length lc) := ⟨by rw [blk_cell bx]; rfl, by rw [blk_cell bx]; rfl, by rw [blk_cell bx]; rfl, by rw [blk_cell bx]; rfl⟩
  have hb2 : ¬ 65536 < n := by omega
  have HQ := hide (seqT.kind (x := x) hs)
  clear bx bz hwa hs
  go_enter Tryz.func13, Tryz.ntmps13
  go_wp2_with fail
  rw [← HWE.out]
  go_wp2_with (go_at_call 32; refine (isSeq_any _ _ _ _ _ _ _ _ _).mono ?_; rintro e w1 ⟨rfl, hg1⟩; have hqq := HQ.out; have hrr := blk_keep HBZ.out hg1 (by simp); have HG1 := hide (gb_trans HG0.out hg1 (.inl rfl)); have HR3 := hide hrr; have z0 := blk_frozen hrr 0; have z1 := blk_frozen hrr 1; have z2 := blk_frozen hrr 2; have z3 := blk_frozen hrr 3; have p0 : w1.cell? ⟨w.heap.size + 1, 0, none⟩ = some (.int .i64 0) := (by { rw [blk_cell hrr]; rfl }); have p1 : w1.cell? ⟨w.heap.size + 1, 1, none⟩ = some (.slice none 0 0) := (by { rw [blk_cell hrr]; rfl }); have p2 : w1.cell? ⟨w.heap.size + 1, 2, none⟩ = some (.slice none 0 0) := (by { rw [blk_cell hrr]; rfl }); have p3 : w1.cell? ⟨w.heap.size + 1, 3, none⟩ = some (.slice none 0 0) := (by { rw [blk_cell hrr]; rfl }); clear hg1 hrr)
  obtain ⟨m0, m1, m2, m3⟩ := C4.put HR3.out (.int .i64 0) (.slice none 0 0) (.slice none 0 0) (.slice none 0 0)
  simp only [put4, Nat.zero_add] at m0 m1 m2 m3
  refine bodyPost_ret (v := .tuple #[.agg #[.int .i64 0, .slice none 0 0, .slice none 0 0, .slice none 0 0], .int .i64 6]) (by simp [results, Tryz.results13, go_sem, m0, m1, m2, m3]) rfl ⟨rfl, ?_⟩
  exact put4_to HG1.out (by omega)
set_option maxHeartbeats 8000000 in
set_option maxRecDepth 100000 in
theorem reverse_err (x : Vl) (w : World) (B : Nat) (nA : Option Addr) (nc : Nat) (sA : Option Addr) (sc : Nat) (lA : Option Addr) (lc : Nat)
    (hs : ¬ seqT x.t) (htot : x.tot ≤ 1200000000) (hB : B ≤ w.heap.size) (vx : VB w B x nA nc sA sc lA lc) :
    Calls Tryz.prog 9 #[.agg #[.int .i64 x.t, .slice nA x.n.length nc, .slice sA x.s.length sc, .slice lA x.l.length lc]] w (ErrV 31 w) := by
  have hcc : x.count ≤ 1200000000 := Nat.le_trans (Vl.count_le x.depth x (Nat.le_refl _)) htot
  have hcnt := fun w2 (hg : w.grownBy w2 none) => count_d x.depth x w2 B nA nc sA sc lA lc (Nat.le_refl _) htot (Nat.le_trans hB hg.size) (vx.gb hg hB)
  obtain ⟨m, hm⟩ : ∃ m, m = x.count := ⟨_, rfl⟩
  rw [← hm] at hcc hcnt
  have hrow := fun w2 => rowG_any 0 (m : Int) m (by omega) hcc (by omega) w2
  have HROW := hide hrow
  have HIDX := hide (fun (qs : Value) w2 => index_err x hs nA nc sA sc lA lc qs w2)
  have HCNT := hide hcnt
  have HCC := hide hcc
  obtain ⟨wa, hwa⟩ : ∃ wa, wa = (w.alloc (.cells #[.int .i64 x.t, .slice nA x.n.length nc, .slice sA x.s.length sc, .slice lA x.l.length lc] 26)).alloc (.cells #[.int .i64 0, .slice none 0 0, .slice none 0 0, .slice none 0 0] 26) := ⟨_, rfl⟩
  have bx : wa.heap[w.heap.size]? = some (.cells #[.int .i64 x.t, .slice nA x.n.length nc, .slice sA x.s.length sc, .slice lA x.l.length lc] 26 (0, 0)) := by rw [hwa]; exact (Below.heap_alloc _ _ _ (by rw [World.size_alloc]; omega)).trans (heap_alloc_new w _)
  have bz : wa.heap[w.heap.size + 1]? = some (.cells #[.int .i64 0, .slice none 0 0, .slice none 0 0, .slice none 0 0] 26 (0, 0)) := by rw [hwa]; have := heap_alloc_new (w.alloc (.cells #[.int .i64 x.t, .slice nA x.n.length nc, .slice sA x.s.length sc, .slice lA x.l.length lc] 26)) (.cells #[.int .i64 0, .slice none 0 0, .slice none 0 0, .slice none 0 0] 26); rwa [World.size_alloc] at this
  have HBX := hide bx
  have HBZ := hide bz
  have HG0 := hide (show w.grownBy wa none by rw [hwa]; exact gb_alloc (gb_alloc (gb_refl w none) _) _)
  have HWE := hide hwa
  obtain ⟨c0, c1, c2, c3⟩ : C4 wa w.heap.size 0 (.int .i64 x.t) (.slice nA x.n.length nc) (.slice sA x.s.length sc) (.slice lA x.l.length lc) := ⟨by rw [blk_cell bx]; rfl, by rw [blk_cell bx]; rfl, by rw [blk_cell bx]; rfl, by rw [blk_cell bx]; rfl⟩
  have HBXA := hide bx
  have HBZA := hide bz
  have HGA := hide (gb_refl wa none)
  clear bx bz hwa htot hs hB vx hcnt hrow hcc hm
  go_enter Tryz.func9, Tryz.ntmps9
  go_wp2_with fail
  rw [← HWE.out]
  go_wp2_with (first
    | (go_at_call 27; refine (HCNT.out _ HG0.out).mono ?_; rintro e w1 ⟨rfl, hg1⟩; have HGn := hide (gb_trans HGA.out hg1 (.inl rfl)); clear HGA; have HGA := hide HGn.out; clear HGn hg1)
    | (go_at_call 26; refine (HROW.out _).mono ?_; rintro e w2 ⟨rfl, hg1, ho⟩; have HO := hide ho; have HGn := hide (gb_trans HGA.out hg1 (.inl rfl)); have HGB := hide (HGA.out.size); clear HGA; have HGA := hide HGn.out; clear HGn hg1 ho)
    | (go_at_call 28; refine (reverse_row _ _ _ _ _ (rowI_length 0 m) HCC.out HO.out).mono ?_; rintro e w3 ⟨rfl, ho, hg1⟩; have HGC := hide (gb_trans HGA.out hg1 (.inr (.inr ⟨_, rfl, HGB.out⟩))); clear c0 c1 c2 c3; have HBX := hide (blk_keep HBXA.out HGC.out (by simp)); have HGW := hide (gb_trans HG0.out HGC.out (.inl rfl)); obtain ⟨c0, c1, c2, c3⟩ : C4 w3 w.heap.size 0 (.int .i64 x.t) (.slice nA x.n.length nc) (.slice sA x.s.length sc) (.slice lA x.l.length lc) := (by have h := HBX.out; exact ⟨by rw [blk_cell h]; rfl, by rw [blk_cell h]; rfl, by rw [blk_cell h]; rfl, by rw [blk_cell h]; rfl⟩); clear ho hg1)
    | (go_at_call 17; refine (HIDX.out _ _).mono ?_; rintro e w5 ⟨rfl, hg5⟩; have HG5 := hide (gb_trans HGW.out hg5 (.inl rfl)); have hrr := blk_keep HBZA.out (gb_trans HGC.out hg5 (.inl rfl)) (by simp); have HR3 := hide hrr; have z0 := blk_frozen hrr 0; have z1 := blk_frozen hrr 1; have z2 := blk_frozen hrr 2; have z3 := blk_frozen hrr 3; have p0 : w5.cell? ⟨w.heap.size + 1, 0, none⟩ = some (.int .i64 0) := (by { rw [blk_cell hrr]; rfl }); have p1 : w5.cell? ⟨w.heap.size + 1, 1, none⟩ = some (.slice none 0 0) := (by { rw [blk_cell hrr]; rfl }); have p2 : w5.cell? ⟨w.heap.size + 1, 2, none⟩ = some (.slice none 0 0) := (by { rw [blk_cell hrr]; rfl }); have p3 : w5.cell? ⟨w.heap.size + 1, 3, none⟩ = some (.slice none 0 0) := (by { rw [blk_cell hrr]; rfl }); clear hg5 hrr))
  obtain ⟨m0, m1, m2, m3⟩ := C4.put HR3.out (.int .i64 0) (.slice none 0 0) (.slice none 0 0) (.slice none 0 0)
  simp only [put4, Nat.zero_add] at m0 m1 m2 m3
  refine bodyPost_ret (v := .tuple #[.agg #[.int .i64 0, .slice none 0 0, .slice none 0 0, .slice none 0 0], .int .i64 31]) (by simp [results, Tryz.results9, go_sem, m0, m1, m2, m3]) rfl ⟨rfl, ?_⟩
  exact put4_to HG5.out (by omega)
section
attribute [-go_sem] Go.storeCells
set_option maxHeartbeats 8000000 in
set_option maxRecDepth 100000 in
theorem drop_err (n : Int) (x : Vl) (w : World) (B : Nat) (nA : Option Addr) (nc : Nat) (sA : Option Addr) (sc : Nat) (lA : Option Addr) (lc : Nat)
    (hs : ¬ seqT x.t) (hc : x.count ≤ 65536) (htot : x.tot ≤ 1200000000) (hB : B ≤ w.heap.size) (vx : VB w B x nA nc sA sc lA lc) (hn : -9223372036854775808 ≤ n ∧ n ≤ 9223372036854775807) :
    Calls Tryz.prog 15 #[.int .i64 n, .agg #[.int .i64 x.t, .slice nA x.n.length nc, .slice sA x.s.length sc, .slice lA x.l.length lc]] w (ErrV 31 w) := by
  obtain ⟨fi, hfi⟩ : ∃ fi, max n 0 = fi := ⟨_, rfl⟩
  obtain ⟨en, hen⟩ : ∃ en, max ((x.count : Int) + min n 0) fi = en := ⟨_, rfl⟩
  obtain ⟨m, hm⟩ : ∃ m : Nat, en - fi = (m : Int) := ⟨(en - fi).toNat, by omega⟩
  have hcc := hc
  have hcnt := fun w2 (hg : w.grownBy w2 none) => count_d x.depth x w2 B nA nc sA sc lA lc (Nat.le_refl _) htot (Nat.le_trans hB hg.size) (vx.gb hg hB)
  obtain ⟨ps, hps⟩ : ∃ ps, ps = rowI fi m := ⟨_, rfl⟩
  have hpl : ps.length = m := by rw [hps]; simp [rowI_length]
  have hrow := fun w2 => row_any fi en m hm (by omega) (by omega) w2
  rw [← hps] at hrow
  have hidx := fun (qs : Value) w2 => index_err x hs nA nc sA sc lA lc qs w2
  have h9 : IntKind.i64.wrap ((x.count : Int) + min n 0) = (x.count : Int) + min n 0 := by rw [IntKind.wrap_i64]; omega
  have HROW := hide hrow
  have HIDX := hide hidx
  have HCNT := hide hcnt
  obtain ⟨wa, hwa⟩ : ∃ wa, wa = (w.alloc (.cells #[.int .i64 x.t, .slice nA x.n.length nc, .slice sA x.s.length sc, .slice lA x.l.length lc] 26)).alloc (.cells #[.int .i64 0, .slice none 0 0, .slice none 0 0, .slice none 0 0] 26) := ⟨_, rfl⟩
  have bx : wa.heap[w.heap.size]? = some (.cells #[.int .i64 x.t, .slice nA x.n.length nc, .slice sA x.s.length sc, .slice lA x.l.length lc] 26 (0, 0)) := by rw [hwa]; exact (Below.heap_alloc _ _ _ (by rw [World.size_alloc]; omega)).trans (heap_alloc_new w _)
  have bz : wa.heap[w.heap.size + 1]? = some (.cells #[.int .i64 0, .slice none 0 0, .slice none 0 0, .slice none 0 0] 26 (0, 0)) := by rw [hwa]; have := heap_alloc_new (w.alloc (.cells #[.int .i64 x.t, .slice nA x.n.length nc, .slice sA x.s.length sc, .slice lA x.l.length lc] 26)) (.cells #[.int .i64 0, .slice none 0 0, .slice none 0 0, .slice none 0 0] 26); rwa [World.size_alloc] at this
  have HBX := hide bx
  have HBZ := hide bz
  have HG0 := hide (show w.grownBy wa none by rw [hwa]; exact gb_alloc (gb_alloc (gb_refl w none) _) _)
  have HWE := hide hwa
  have HGA := hide (gb_refl wa none)
  have HBXA := hide bx
  have HBZA := hide bz
  obtain ⟨c0, c1, c2, c3⟩ : C4 wa w.heap.size 0 (.int .i64 x.t) (.slice nA x.n.length nc) (.slice sA x.s.length sc) (.slice lA x.l.length lc) := ⟨by rw [blk_cell bx]; rfl, by rw [blk_cell bx]; rfl, by rw [blk_cell bx]; rfl, by rw [blk_cell bx]; rfl⟩
  have HSZ := hide (show wa.heap.size = w.heap.size + 2 by rw [hwa]; simp)
  clear bx bz hwa htot hs hB vx hcnt hidx hrow hps hcc hpl hn hm hc
  generalize x.count = cn at *
  go_enter Tryz.func15, Tryz.ntmps15
  go_wp2_with fail
  rw [← HWE.out]
  go_wp2_with (go_at_call 27; refine (HCNT.out _ HG0.out).mono ?_; rintro e w1 ⟨rfl, hg1⟩; have HG1 := hide hg1; have HBXn := hide (blk_keep HBX.out hg1 (by simp)); have HBZn := hide (blk_keep HBZ.out hg1 (by simp)); clear HBX HBZ; have HBX := hide HBXn.out; have HBZ := hide HBZn.out; clear HBXn HBZn; (try clear c0 c1 c2 c3); obtain ⟨c0, c1, c2, c3⟩ : C4 w1 w.heap.size 0 (.int .i64 x.t) (.slice nA x.n.length nc) (.slice sA x.s.length sc) (.slice lA x.l.length lc) := (by have h := HBX.out; exact ⟨by rw [blk_cell h]; rfl, by rw [blk_cell h]; rfl, by rw [blk_cell h]; rfl, by rw [blk_cell h]; rfl⟩); clear hg1)
  have HC := hide (show C4 w1 w.heap.size 0 (.int .i64 x.t) (.slice nA x.n.length nc) (.slice sA x.s.length sc) (.slice lA x.l.length lc) from ⟨c0, c1, c2, c3⟩)
  have HGG := hide (gb_trans HG0.out HG1.out (.inl rfl))
  clear c0 c1 c2 c3 HWE h9 HGA

  clear hfi hen
  refine wp_region_facts' 7 (by kernel_rfl) (by kernel_rfl) ?_
  intro A O W L HA HO HW HL
  simp only [List.take_succ_cons, List.take_zero]
  have HS := hide (show A.tmps.size = 26 by rw [HA.out]; rfl)
  have HGW := hide (show w1.grownBy W none by rw [HW.out]; exact gb_drew (gb_refl w1 none))
  have A3 := hide (show A.eval (.tmp 3) = .pointer (some ⟨w.heap.size, 0, none⟩) by rw [HA.out]; rfl)
  have A7 := hide (show A.eval (.tmp 7) = .int .i64 fi by rw [HA.out]; rfl)
  have A8 := hide (show A.eval (.tmp 8) = .int .i64 en by rw [HA.out]; rfl)
  -- slot 19
  refine wpFacts_lit (.agg #[.int .i64 x.t, .slice nA x.n.length nc, .slice sA x.s.length sc, .slice lA x.l.length lc]) rfl ?_ ?_
  · intro a wq hw hl
    have e3 : a.tmps[3]?.getD undef = .pointer (some ⟨w.heap.size, 0, none⟩) := (hl 3 (by first | (simp [Op.operands]; done) | simp [Op.operands, Call.operands]) (by rw [HS.out]; decide)).trans A3.out
    obtain ⟨c0, c1, c2, c3⟩ := HC.out.gb (gb_trans HGW.out hw (.inl rfl))
    clear hl
    go_simp
  -- slot 20
  refine wpFacts_lit (.int .i64 fi) rfl ?_ ?_
  · intro a wq hw hl
    have e7 : a.tmps[7]?.getD undef = .int .i64 fi := (hl 7 (by first | (simp [Op.operands]; done) | simp [Op.operands, Call.operands]) (by rw [HS.out]; decide)).trans A7.out
    clear hl
    go_simp
  -- slot 21
  refine wpFacts_lit (.int .i64 en) rfl ?_ ?_
  · intro a wq hw hl
    have e8 : a.tmps[8]?.getD undef = .int .i64 en := (hl 8 (by first | (simp [Op.operands]; done) | simp [Op.operands, Call.operands]) (by rw [HS.out]; decide)).trans A8.out
    clear hl
    go_simp
  -- slot 22
  refine wpFacts_step (OwnIF 0 ps) rfl (OwnIF.up _ _) ?_ ?_
  · intro a wq hw hl
    have e20 : a.tmps[20]?.getD undef = .int .i64 fi := hl 20 (by first | (simp [Op.operands]; done) | simp [Op.operands, Call.operands]) (by rw [HS.out]; decide)
    have e21 : a.tmps[21]?.getD undef = .int .i64 en := hl 21 (by first | (simp [Op.operands]; done) | simp [Op.operands, Call.operands]) (by rw [HS.out]; decide)
    clear hl
    go_simp
    refine ⟨gb_refl _ none, (HROW.out _).mono fun _ _ h => ?_⟩
    obtain ⟨hg, A, c, h1, h2, h3⟩ := h
    exact ⟨_, h2, hg, A, c, h1, rfl, own_low h3 (Nat.zero_le _)⟩
  -- slot 23
  refine wpFacts_step (fun vq _ => vq = .tuple #[.agg #[.int .i64 0, .slice none 0 0, .slice none 0 0, .slice none 0 0], .int .i64 31]) rfl (Lit.up _) ?_ ?_
  · intro a wq hw hl
    have e19 : a.tmps[19]?.getD undef = .agg #[.int .i64 x.t, .slice nA x.n.length nc, .slice sA x.s.length sc, .slice lA x.l.length lc] := hl 19 (by first | (simp [Op.operands]; done) | simp [Op.operands, Call.operands]) (by rw [HS.out]; decide)
    have h22 : (OwnIF 0 ps) (a.tmps[22]?.getD undef) wq := hl 22 (by first | (simp [Op.operands]; done) | simp [Op.operands, Call.operands]) (by rw [HS.out]; decide)
    obtain ⟨rA, rc, h1, e22, h2⟩ := h22
    clear hl
    go_simp
    exact gUpon_lit (HIDX.out _ _)
  -- slot 24
  refine wpFacts_lit (.agg #[.int .i64 0, .slice none 0 0, .slice none 0 0, .slice none 0 0]) rfl ?_ ?_
  · intro a wq hw hl
    have e23 : a.tmps[23]?.getD undef = .tuple #[.agg #[.int .i64 0, .slice none 0 0, .slice none 0 0, .slice none 0 0], .int .i64 31] := hl 23 (by first | (simp [Op.operands]; done) | simp [Op.operands, Call.operands]) (by rw [HS.out]; decide)
    clear hl
    go_simp
  -- slot 25
  refine wpFacts_lit (.int .i64 31) rfl ?_ ?_
  · intro a wq hw hl
    have e23 : a.tmps[23]?.getD undef = .tuple #[.agg #[.int .i64 0, .slice none 0 0, .slice none 0 0, .slice none 0 0], .int .i64 31] := hl 23 (by first | (simp [Op.operands]; done) | simp [Op.operands, Call.operands]) (by rw [HS.out]; decide)
    clear hl
    go_simp
  refine HL.out _ (fun a' w5 hc => ?_)
  have e24 : a'.eval (.tmp 24) = .agg #[.int .i64 0, .slice none 0 0, .slice none 0 0, .slice none 0 0] := hc.fact 24 (by rw [HS.out]; decide)
  have e25 : a'.eval (.tmp 25) = .int .i64 31 := hc.fact 25 (by rw [HS.out]; decide)
  have hgw5 := gb_trans HGW.out hc.grown (.inl rfl)
  have hfr := hc.frame [19, 20, 21, 22, 23, 24, 25, 5] (by rw [HO.out]; kernel_rfl)
  rw [hfr]
  clear hfr hc
  rw [HA.out]
  clear HA HO HL HW HS HGW A3 A7 A8
  clear A O W L
  simp only [List.drop_succ_cons, List.drop_zero, List.foldl_cons, List.foldl_nil, Act.put, List.setIfInBounds_toArray, List.set_cons_succ, List.set_cons_zero]
  rw [e24, e25]
  generalize a'.eval (.tmp 19) = x19
  generalize a'.eval (.tmp 20) = x20
  generalize a'.eval (.tmp 21) = x21
  generalize a'.eval (.tmp 22) = x22
  generalize a'.eval (.tmp 23) = x23
  generalize a'.eval (.tmp 5) = x5
  clear e24 e25
  clear a'
  have HG5 := hide (gb_trans HGG.out hgw5 (.inl rfl))
  have hbz := blk_keep HBZ.out hgw5 (by simp)
  have HZ := hide hbz
  have hst := storeCells_row (P := Tryz.prog) (c' := #[.int .i64 0, .slice none 0 0, .slice none 0 0, .slice none 0 0]) hbz info4 rfl (by simp [Value.oneCell'])
  clear hbz hgw5 HC HBX HBZ HG1 HGG HG0
  go_wp2_with fail
  have hrow := heap_setRow_at _ _ _ #[.int .i64 0, .slice none 0 0, .slice none 0 0, .slice none 0 0] _ _ HZ.out
  have m0 := blk_cell hrow 0
  have m1 := blk_cell hrow 1
  have m2 := blk_cell hrow 2
  have m3 := blk_cell hrow 3
  simp only [List.getElem?_toArray, List.getElem?_cons_zero, List.getElem?_cons_succ] at m0 m1 m2 m3
  refine bodyPost_ret (v := .tuple #[.agg #[.int .i64 0, .slice none 0 0, .slice none 0 0, .slice none 0 0], .int .i64 31]) (by simp [results, Tryz.results15, go_sem, m0, m1, m2, m3]) rfl ⟨rfl, ?_⟩
  exact gb_trans HG5.out (gb_setRow_own _ _ _) (.inr (.inr ⟨_, rfl, Nat.le_succ _⟩))
end
end Go.Proofs.YtkbflmaflokpdaaGreat
