/-
  The document's At.
-/
import Derived.Test.YtfckmkpfhchggaaZf
import Derived.Test.YtfckmkpfhchggaaXn
import Derived.Test.YtfckmkpfhchggaaWy
namespace Go.Proofs.Ytfckmkpfhchggaa
open Go.RowKit
attribute [local go_sem ↓] Go.wp_at_zero Go.wp_at_succ

set_option maxHeartbeats 4000000 in
set_option maxRecDepth 100000 in
theorem rAtomN_any (t n : Int) (ht : t = 1 ∨ t = 2 ∨ t = 4 ∨ t = 5) (w : World) : Calls Try.prog 42 #[.int .i64 t, .int .i64 n] w (NewV (.mk (-t) [n] [] []) w) := by
  rcases ht with rfl | rfl | rfl | rfl
  · have HA : ∀ w, Calls Try.prog 53 #[.int .i64 1] w fun e w' => e = .returned (.int .i64 1) ∧ w = w' := fun w => rAbs_any 1 w
    have HA := hide HA
    go_enter Try.func42, Try.ntmps42
    go_wp2_with (go_at_call 53; refine (HA.out _).mono ?_; rintro e w1 ⟨rfl, rfl⟩)
    have h := newV_atom w (-1) n (.cells #[.int .i64 (-1), .slice (some ⟨w.heap.size + 1, 0, none⟩) 1 1, .slice none 0 0, .slice none 0 0] 26)
    refine bodyPost_ret (v := .agg #[.int .i64 (-1), .slice (some ⟨w.heap.size + 1, 0, none⟩) 1 1, .slice none 0 0, .slice none 0 0]) (by simp [results, Try.results42, go_sem]) rfl h
  · exact rAtomI_any n w
  · have HA : ∀ w, Calls Try.prog 53 #[.int .i64 4] w fun e w' => e = .returned (.int .i64 4) ∧ w = w' := fun w => rAbs_any 4 w
    have HA := hide HA
    go_enter Try.func42, Try.ntmps42
    go_wp2_with (go_at_call 53; refine (HA.out _).mono ?_; rintro e w1 ⟨rfl, rfl⟩)
    have h := newV_atom w (-4) n (.cells #[.int .i64 (-4), .slice (some ⟨w.heap.size + 1, 0, none⟩) 1 1, .slice none 0 0, .slice none 0 0] 26)
    refine bodyPost_ret (v := .agg #[.int .i64 (-4), .slice (some ⟨w.heap.size + 1, 0, none⟩) 1 1, .slice none 0 0, .slice none 0 0]) (by simp [results, Try.results42, go_sem]) rfl h
  · have HA : ∀ w, Calls Try.prog 53 #[.int .i64 5] w fun e w' => e = .returned (.int .i64 5) ∧ w = w' := fun w => rAbs_any 5 w
    have HA := hide HA
    go_enter Try.func42, Try.ntmps42
    go_wp2_with (go_at_call 53; refine (HA.out _).mono ?_; rintro e w1 ⟨rfl, rfl⟩)
    have h := newV_atom w (-5) n (.cells #[.int .i64 (-5), .slice (some ⟨w.heap.size + 1, 0, none⟩) 1 1, .slice none 0 0, .slice none 0 0] 26)
    refine bodyPost_ret (v := .agg #[.int .i64 (-5), .slice (some ⟨w.heap.size + 1, 0, none⟩) 1 1, .slice none 0 0, .slice none 0 0]) (by simp [results, Try.results42, go_sem]) rfl h

/-- What the document's At begins with. -/
structure AtB (w wa : World) (v : Vl) (nA : Option Addr) (nc : Nat) (sA : Option Addr) (sc : Nat) (lA : Option Addr) (lc : Nat) : Prop where
  c : C4 wa w.heap.size 0 (.int .i64 v.t) (.slice nA v.n.length nc) (.slice sA v.s.length sc) (.slice lA v.l.length lc)
  r : wa.heap[w.heap.size + 1]? = some (.cells zero4 26 (0, 0))
  g : w.grownBy wa none
  s : wa.heap.size = w.heap.size + 2
theorem AtB.mk_ (w : World) (v : Vl) (nA : Option Addr) (nc : Nat) (sA : Option Addr) (sc : Nat) (lA : Option Addr) (lc : Nat) :
    AtB w ((w.alloc (.cells #[.int .i64 v.t, .slice nA v.n.length nc, .slice sA v.s.length sc, .slice lA v.l.length lc] 26)).alloc (.cells #[.int .i64 0, .slice none 0 0, .slice none 0 0, .slice none 0 0] 26)) v nA nc sA sc lA lc :=
  ⟨(C4.box w _ _ _ _ _).gb (gb_alloc (gb_refl _ none) _), alloc2_blk w _ _, gb_alloc (gb_alloc (gb_refl w none) _) _, by simp⟩

set_option maxHeartbeats 8000000 in
set_option maxRecDepth 100000 in
theorem rAt_out (v : Vl) (i : Int) (w : World) (B : Nat) (nA : Option Addr) (nc : Nat) (sA : Option Addr) (sc : Nat) (lA : Option Addr) (lc : Nat) (hi : i < 0 ∨ (v.count : Int) ≤ i) (ht : v.tot ≤ 1100000) (hB : B ≤ w.heap.size) (h : VB w B v nA nc sA sc lA lc) :
    Calls Try.prog 11 #[.agg #[.int .i64 v.t, .slice nA v.n.length nc, .slice sA v.s.length sc, .slice lA v.l.length lc], .int .i64 i] w (ErrV 33 w) := by
  obtain ⟨wa, hwa⟩ : ∃ wa, wa = (w.alloc (.cells #[.int .i64 v.t, .slice nA v.n.length nc, .slice sA v.s.length sc, .slice lA v.l.length lc] 26)).alloc (.cells #[.int .i64 0, .slice none 0 0, .slice none 0 0, .slice none 0 0] 26) := ⟨_, rfl⟩
  obtain ⟨hc, hr, hg, hs⟩ := AtB.mk_ w v nA nc sA sc lA lc
  rw [← hwa] at hc hr hg hs
  obtain ⟨b0, b1, b2, b3⟩ := hc
  have HCT := hide (rCount_any v wa B nA nc sA sc lA lc ht (Nat.le_trans hB hg.size) (h.gb hg hB))
  have HG := hide hg
  have HR := hide hr
  have HWE := hide hwa
  have HS := hide hs
  by_cases h0 : i < 0
  · clear h hg hwa hr hs ht hB hi HCT b0 b1 b2 b3
    go_enter Try.func11, Try.ntmps11
    go_wp2_with fail
    refine bodyPost_ret (v := .tuple #[.agg #[.int .i64 0, .slice none 0 0, .slice none 0 0, .slice none 0 0], .int .i64 33]) (by simp [results, Try.results11, go_sem]) rfl ⟨rfl, ?_⟩
    exact gb_alloc (gb_alloc (gb_refl w none) _) _
  · have h1 : (v.count : Int) ≤ i := by omega
    have h2 : 0 ≤ i := by omega
    clear h hg hwa hr hs ht hB hi h0
    generalize v.count = n at *
    go_enter Try.func11, Try.ntmps11
    go_wp2_with fail
    rw [← HWE.out]
    go_wp2_with (go_at_call 16; refine HCT.out.mono ?_; rintro e w1 ⟨rfl, hg1⟩; have hr1 := (hg1.block _ (blk_lt HR.out) (by simp)).trans HR.out; have z0 := blk_frozen hr1 0; have z1 := blk_frozen hr1 1; have z2 := blk_frozen hr1 2; have z3 := blk_frozen hr1 3; have p0 : w1.cell? ⟨w.heap.size + 1, 0, none⟩ = some (.int .i64 0) := (by { rw [blk_cell hr1]; rfl }); have p1 : w1.cell? ⟨w.heap.size + 1, 1, none⟩ = some (.slice none 0 0) := (by { rw [blk_cell hr1]; rfl }); have p2 : w1.cell? ⟨w.heap.size + 1, 2, none⟩ = some (.slice none 0 0) := (by { rw [blk_cell hr1]; rfl }); have p3 : w1.cell? ⟨w.heap.size + 1, 3, none⟩ = some (.slice none 0 0) := (by { rw [blk_cell hr1]; rfl }); have HR1 := hide hr1; have HG1 := hide hg1; clear hr1 hg1)
    obtain ⟨m0, m1, m2, m3⟩ := C4.put HR1.out (.int .i64 0) (.slice none 0 0) (.slice none 0 0) (.slice none 0 0)
    simp only [put4, Nat.zero_add] at m0 m1 m2 m3
    refine bodyPost_ret (v := .tuple #[.agg #[.int .i64 0, .slice none 0 0, .slice none 0 0, .slice none 0 0], .int .i64 33]) (by simp [results, Try.results11, go_sem, m0, m1, m2, m3]) rfl ⟨rfl, ?_⟩
    exact put4_to (gb_trans HG.out HG1.out (.inl rfl)) (by omega)

/-- Is it a keyed table? -/
def keyedV (v : Vl) : Bool := decide (v.t = 99) && (decide (v.l.length = 2) && decide (headT v.l = 98))
set_option maxHeartbeats 8000000 in
set_option maxRecDepth 100000 in
theorem rKeyed_any (v : Vl) (w : World) (B : Nat) (nA : Option Addr) (nc : Nat) (sA : Option Addr) (sc : Nat) (lA : Option Addr) (lc : Nat) (ht : v.tot ≤ 1100000) (hB : B ≤ w.heap.size) (h : VB w B v nA nc sA sc lA lc) :
    Calls Try.prog 50 #[.agg #[.int .i64 v.t, .slice nA v.n.length nc, .slice sA v.s.length sc, .slice lA v.l.length lc]] w fun e w' => e = .returned (.bool (keyedV v)) ∧ w.grownBy w' none := by
  obtain ⟨wa, hwa⟩ : ∃ wa, wa = w.alloc (.cells #[.int .i64 v.t, .slice nA v.n.length nc, .slice sA v.s.length sc, .slice lA v.l.length lc] 26) := ⟨_, rfl⟩
  have hg : w.grownBy wa none := by rw [hwa]; exact gb_alloc (gb_refl w none) _
  have hc := C4.box w (.int .i64 v.t) (.slice nA v.n.length nc) (.slice sA v.s.length sc) (.slice lA v.l.length lc) 26
  rw [← hwa] at hc
  obtain ⟨b0, b1, b2, b3⟩ := hc
  have hv := h.gb hg hB
  obtain ⟨l1, l2, l3, l4⟩ := Vl.lens v ht
  have HG := hide hg
  have HWE := hide hwa
  by_cases h99 : v.t = 99
  · have e0 := int_beq_t h99
    by_cases hl2 : v.l.length = 2
    · obtain ⟨q, o, xA, xc, yA, yc, zA, zc, rfl, hqB, hc4, hvb⟩ := hv.l.first (by omega)
      have d0 := hc4.c0
      rw [← headT_at (by omega), hwa] at d0
      have hl02 : (0 : Int) < (v.l.length : Int) := by omega
      have hl01 : v.l ≠ [] := fun e => by rw [e] at hl2; cases hl2
      have e1 : ((v.l.length : Int) == 2) = true := int_beq_t (by omega)
      have HK : Hid (keyedV v = decide (headT v.l = 98)) := hide (by unfold keyedV; rw [decide_eq_true h99, decide_eq_true hl2]; rfl)
      clear h hv hc4 hvb hqB hg hwa h99 hl2
      generalize keyedV v = r at *
      by_cases h98 : headT v.l = 98
      · have e2 := int_beq_t h98
        have HR := hide (show r = true by rw [HK.out, decide_eq_true h98])
        clear h98 HK
        generalize headT v.l = t1 at *
        go_enter Try.func50, Try.ntmps50
        go_wp2_with fail
        rw [← HWE.out]
        go_wp2_with fail
        go_ret
        exact ⟨ret_b (by rw [HR.out]), HG.out⟩
      · have e2 := int_beq_f h98
        have HR := hide (show r = false by rw [HK.out, decide_eq_false h98])
        clear h98 HK
        generalize headT v.l = t1 at *
        go_enter Try.func50, Try.ntmps50
        go_wp2_with fail
        rw [← HWE.out]
        go_wp2_with fail
        go_ret
        exact ⟨ret_b (by rw [HR.out]), HG.out⟩
    · have e1 : ((v.l.length : Int) == 2) = false := int_beq_f (by omega)
      have HR : Hid (keyedV v = false) := hide (by unfold keyedV; rw [decide_eq_false hl2]; simp)
      clear h hv hg hwa h99 hl2
      generalize keyedV v = r at *
      go_enter Try.func50, Try.ntmps50
      go_wp2_with fail
      rw [← HWE.out]
      go_wp2_with fail
      go_ret
      exact ⟨ret_b (by rw [HR.out]), HG.out⟩
  · have e0 := int_beq_f h99
    have HR : Hid (keyedV v = false) := hide (by unfold keyedV; rw [decide_eq_false h99]; simp)
    clear h hv hg hwa h99
    generalize keyedV v = r at *
    go_enter Try.func50, Try.ntmps50
    go_wp2_with fail
    rw [← HWE.out]
    go_wp2_with fail
    go_ret
    exact ⟨ret_b (by rw [HR.out]), HG.out⟩

set_option maxHeartbeats 8000000 in
set_option maxRecDepth 100000 in
theorem rAt_sym (v : Vl) (k : Nat) (w : World) (B : Nat) (nA : Option Addr) (nc : Nat) (sA : Option Addr) (sc : Nat) (lA : Option Addr) (lc : Nat) (hty : v.t = 3) (hk : k < v.s.length) (ht : v.tot ≤ 500000) (hB : B ≤ w.heap.size) (h : VB w B v nA nc sA sc lA lc) :
    Calls Try.prog 11 #[.agg #[.int .i64 v.t, .slice nA v.n.length nc, .slice sA v.s.length sc, .slice lA v.l.length lc], .int .i64 (k : Int)] w (NewE (.mk (-3) [] [v.s[k]] []) w) := by
  obtain ⟨wa, hwa⟩ : ∃ wa, wa = (w.alloc (.cells #[.int .i64 v.t, .slice nA v.n.length nc, .slice sA v.s.length sc, .slice lA v.l.length lc] 26)).alloc (.cells #[.int .i64 0, .slice none 0 0, .slice none 0 0, .slice none 0 0] 26) := ⟨_, rfl⟩
  obtain ⟨hc, hr, hg, hs⟩ := AtB.mk_ w v nA nc sA sc lA lc
  rw [← hwa] at hc hr hg hs
  have HC := hide hc
  obtain ⟨b0, b1, b2, b3⟩ := hc
  have hv := h.gb hg hB
  have hBa := Nat.le_trans hB hg.size
  have HV := hide hv
  have HBA := hide hBa
  have HCT := hide (rCount_any v wa B nA nc sA sc lA lc (by omega) hBa hv)
  have HG := hide hg
  have HR := hide hr
  have HWE := hide hwa
  have HS := hide hs
  have HT := hide ht
  have h0 : 0 ≤ (k : Int) := by omega
  obtain ⟨l1, l2, l3, l4⟩ := Vl.lens v (by omega)
  rw [count_sym hty] at HCT
  obtain ⟨a, ha, _, hcl⟩ := hv.s.str hk
  subst ha
  have hk1 : ¬ (v.s.length : Int) ≤ (k : Int) := by omega
  obtain ⟨x, hx⟩ : ∃ x, x = v.s[k] := ⟨_, rfl⟩
  rw [← hx] at hcl ⊢
  clear hx
  obtain ⟨X, hX⟩ : ∃ X, X = Vl.mk (-3) [] [x] [] := ⟨_, rfl⟩
  have HSY := hide (fun w2 => rSymbol_any x w2)
  rw [← hX] at HSY ⊢
  clear hX
  clear h hg hwa hr hs ht hB hv hBa HV
  generalize v.t = t at *
  subst hty
  go_enter Try.func11, Try.ntmps11
  go_wp2_with fail
  rw [← HWE.out]
  go_wp2_with (first
    | (go_at_call 16; refine HCT.out.mono ?_; rintro e w1 ⟨rfl, hg1⟩; have HG1 := hide hg1; have HGS1 := hide hg1; have b0 := cell_gb b0 hg1; have b1 := cell_gb b1 hg1; have b2 := cell_gb b2 hg1; have b3 := cell_gb b3 hg1; have hcl := cell_gb hcl hg1; clear hg1)
    | (go_at_call 43; refine (HSY.out _).mono ?_; rintro e w2 ⟨xA, xc, yA, yc, zA, zc, f, rfl, ho, hn, hg2⟩; have hrr := ((gb_trans HG1.out hg2 (.inl rfl)).block _ (by have := HS.out; omega) (by simp)).trans HR.out; have HRR := hide hrr; have z0 := blk_frozen hrr 0; have z1 := blk_frozen hrr 1; have z2 := blk_frozen hrr 2; have z3 := blk_frozen hrr 3; have p0 : w2.cell? ⟨w.heap.size + 1, 0, none⟩ = some (.int .i64 0) := (by { rw [blk_cell hrr]; rfl }); have p1 : w2.cell? ⟨w.heap.size + 1, 1, none⟩ = some (.slice none 0 0) := (by { rw [blk_cell hrr]; rfl }); have p2 : w2.cell? ⟨w.heap.size + 1, 2, none⟩ = some (.slice none 0 0) := (by { rw [blk_cell hrr]; rfl }); have p3 : w2.cell? ⟨w.heap.size + 1, 3, none⟩ = some (.slice none 0 0) := (by { rw [blk_cell hrr]; rfl }); have HF := hide (NewE.fin (x := X) ho (hn.less HG1.out.size) HG.out (gb_trans HG1.out hg2 (.inl rfl)) (Nat.le_succ w.heap.size) (by have := HS.out; omega)); clear ho hn hg2 hrr))
  obtain ⟨m0, m1, m2, m3⟩ := C4.put HRR.out (.int .i64 X.t) (.slice xA X.n.length xc) (.slice yA X.s.length yc) (.slice zA X.l.length zc)
  simp only [put4, Nat.zero_add] at m0 m1 m2 m3
  refine bodyPost_ret (v := .tuple #[.agg #[.int .i64 X.t, .slice xA X.n.length xc, .slice yA X.s.length yc, .slice zA X.l.length zc], .int .i64 0]) (by simp [results, Try.results11, go_sem, m0, m1, m2, m3]) rfl ?_
  exact HF.out

set_option maxHeartbeats 8000000 in
set_option maxRecDepth 100000 in
theorem rAt_lst (v : Vl) (k : Nat) (w : World) (B : Nat) (nA : Option Addr) (nc : Nat) (sA : Option Addr) (sc : Nat) (lA : Option Addr) (lc : Nat) (hty : v.t = 0) (hk : k < v.l.length) (ht : v.tot ≤ 500000) (hB : B ≤ w.heap.size) (h : VB w B v nA nc sA sc lA lc) :
    Calls Try.prog 11 #[.agg #[.int .i64 v.t, .slice nA v.n.length nc, .slice sA v.s.length sc, .slice lA v.l.length lc], .int .i64 (k : Int)] w (NewE (v.l[k]) w) := by
  obtain ⟨wa, hwa⟩ : ∃ wa, wa = (w.alloc (.cells #[.int .i64 v.t, .slice nA v.n.length nc, .slice sA v.s.length sc, .slice lA v.l.length lc] 26)).alloc (.cells #[.int .i64 0, .slice none 0 0, .slice none 0 0, .slice none 0 0] 26) := ⟨_, rfl⟩
  obtain ⟨hc, hr, hg, hs⟩ := AtB.mk_ w v nA nc sA sc lA lc
  rw [← hwa] at hc hr hg hs
  have HC := hide hc
  obtain ⟨b0, b1, b2, b3⟩ := hc
  have hv := h.gb hg hB
  have hBa := Nat.le_trans hB hg.size
  have HV := hide hv
  have HBA := hide hBa
  have HCT := hide (rCount_any v wa B nA nc sA sc lA lc (by omega) hBa hv)
  have HG := hide hg
  have HR := hide hr
  have HWE := hide hwa
  have HS := hide hs
  have HT := hide ht
  have h0 : 0 ≤ (k : Int) := by omega
  obtain ⟨l1, l2, l3, l4⟩ := Vl.lens v (by omega)
  rw [count_lst hty] at HCT
  obtain ⟨q, o, xA1, xc1, yA1, yc1, zA1, zc1, rfl, hqB, hc4', hvb'⟩ := hv.l.at_ hk
  have hk1 : ¬ (v.l.length : Int) ≤ (k : Int) := by omega
  obtain ⟨y, hy⟩ : ∃ y, y = v.l[k] := ⟨_, rfl⟩
  have hc4 : C4 wa q (o + k * 4) (.int .i64 y.t) (.slice xA1 y.n.length xc1) (.slice yA1 y.s.length yc1) (.slice zA1 y.l.length zc1) := by subst hy; exact hc4'
  have hvb : VB wa B y xA1 xc1 yA1 yc1 zA1 zc1 := by subst hy; exact hvb'
  have hyt : y.tot ≤ 1100000 := by subst hy; have h1 := Vl.tot_mem (List.getElem_mem hk); have h2 := Vl.tot_def v; omega
  rw [show (v.l[k]) = y from hy.symm]
  clear hy hc4' hvb'
  have HVE := hide (fun w2 => rVec_any v.t (.slice nA v.n.length nc) (.slice sA v.s.length sc) (.slice (some ⟨q, o, none⟩) v.l.length lc) w2)
  rw [hty, show rVec 0 = false from rfl] at HVE
  have HCL := hide (fun w2 (k : wa.grownBy w2 none) => rClone_d y.depth y w2 B xA1 xc1 yA1 yc1 zA1 zc1 (Nat.le_refl _) hyt (Nat.le_trans hBa k.size) (hvb.gb k hBa))
  obtain ⟨d0, d1, d2, d3⟩ := hc4
  clear h hg hwa hr hs ht hB hv hBa HV hvb hyt hqB
  generalize v.t = t at *
  subst hty
  go_enter Try.func11, Try.ntmps11
  go_wp2_with fail
  rw [← HWE.out]
  go_wp2_with (first
    | (go_at_call 16; refine HCT.out.mono ?_; rintro e w1 ⟨rfl, hg1⟩; have HG1 := hide hg1; have HGS1 := hide hg1; have b0 := cell_gb b0 hg1; have b1 := cell_gb b1 hg1; have b2 := cell_gb b2 hg1; have b3 := cell_gb b3 hg1; have d0 := cell_gb d0 hg1; have d1 := cell_gb d1 hg1; have d2 := cell_gb d2 hg1; have d3 := cell_gb d3 hg1; clear hg1)
    | (go_at_call 48; refine (HVE.out _).mono ?_; rintro e w2 ⟨rfl, hg2⟩; have HG2 := hide (gb_trans HG1.out hg2 (.inl rfl)); have b0 := cell_gb b0 hg2; have b1 := cell_gb b1 hg2; have b2 := cell_gb b2 hg2; have b3 := cell_gb b3 hg2; have d0 := cell_gb d0 hg2; have d1 := cell_gb d1 hg2; have d2 := cell_gb d2 hg2; have d3 := cell_gb d3 hg2; clear hg2)
    | (go_at_call 35; refine (HCL.out _ HG2.out).mono ?_; rintro e w3 ⟨xA, xc, yA, yc, zA, zc, f, rfl, ho, hn, hg3⟩; have hrr := ((gb_trans HG2.out hg3 (.inl rfl)).block _ (by have := HS.out; omega) (by simp)).trans HR.out; have HRR := hide hrr; have z0 := blk_frozen hrr 0; have z1 := blk_frozen hrr 1; have z2 := blk_frozen hrr 2; have z3 := blk_frozen hrr 3; have p0 : w3.cell? ⟨w.heap.size + 1, 0, none⟩ = some (.int .i64 0) := (by { rw [blk_cell hrr]; rfl }); have p1 : w3.cell? ⟨w.heap.size + 1, 1, none⟩ = some (.slice none 0 0) := (by { rw [blk_cell hrr]; rfl }); have p2 : w3.cell? ⟨w.heap.size + 1, 2, none⟩ = some (.slice none 0 0) := (by { rw [blk_cell hrr]; rfl }); have p3 : w3.cell? ⟨w.heap.size + 1, 3, none⟩ = some (.slice none 0 0) := (by { rw [blk_cell hrr]; rfl }); have HF := hide (NewE.fin (x := y) ho (hn.less HG2.out.size) HG.out (gb_trans HG2.out hg3 (.inl rfl)) (Nat.le_succ w.heap.size) (by have := HS.out; omega)); clear ho hn hg3 hrr))
  obtain ⟨m0, m1, m2, m3⟩ := C4.put HRR.out (.int .i64 y.t) (.slice xA y.n.length xc) (.slice yA y.s.length yc) (.slice zA y.l.length zc)
  simp only [put4, Nat.zero_add] at m0 m1 m2 m3
  refine bodyPost_ret (v := .tuple #[.agg #[.int .i64 y.t, .slice xA y.n.length xc, .slice yA y.s.length yc, .slice zA y.l.length zc], .int .i64 0]) (by simp [results, Try.results11, go_sem, m0, m1, m2, m3]) rfl ?_
  exact HF.out

set_option maxHeartbeats 8000000 in
set_option maxRecDepth 100000 in
theorem rAt_else (v : Vl) (k : Nat) (w : World) (B : Nat) (nA : Option Addr) (nc : Nat) (sA : Option Addr) (sc : Nat) (lA : Option Addr) (lc : Nat) (hn : rVec v.t = false) (h98 : v.t ≠ 98) (h99 : v.t ≠ 99) (h0t : v.t ≠ 0) (hk : k < v.count) (ht : v.tot ≤ 500000) (hB : B ≤ w.heap.size) (h : VB w B v nA nc sA sc lA lc) :
    Calls Try.prog 11 #[.agg #[.int .i64 v.t, .slice nA v.n.length nc, .slice sA v.s.length sc, .slice lA v.l.length lc], .int .i64 (k : Int)] w (NewE (v) w) := by
  obtain ⟨wa, hwa⟩ : ∃ wa, wa = (w.alloc (.cells #[.int .i64 v.t, .slice nA v.n.length nc, .slice sA v.s.length sc, .slice lA v.l.length lc] 26)).alloc (.cells #[.int .i64 0, .slice none 0 0, .slice none 0 0, .slice none 0 0] 26) := ⟨_, rfl⟩
  obtain ⟨hc, hr, hg, hs⟩ := AtB.mk_ w v nA nc sA sc lA lc
  rw [← hwa] at hc hr hg hs
  have HC := hide hc
  obtain ⟨b0, b1, b2, b3⟩ := hc
  have hv := h.gb hg hB
  have hBa := Nat.le_trans hB hg.size
  have HV := hide hv
  have HBA := hide hBa
  have HCT := hide (rCount_any v wa B nA nc sA sc lA lc (by omega) hBa hv)
  have HG := hide hg
  have HR := hide hr
  have HWE := hide hwa
  have HS := hide hs
  have HT := hide ht
  have h0 : 0 ≤ (k : Int) := by omega
  obtain ⟨l1, l2, l3, l4⟩ := Vl.lens v (by omega)
  have hk1 : ¬ (v.count : Int) ≤ (k : Int) := by omega
  have HVE := hide (fun w2 => rVec_any v.t (.slice nA v.n.length nc) (.slice sA v.s.length sc) (.slice lA v.l.length lc) w2)
  rw [hn] at HVE
  have HKE := hide (fun w2 (k : wa.grownBy w2 none) => rKeyed_any v w2 B nA nc sA sc lA lc (by omega) (Nat.le_trans hBa k.size) (hv.gb k hBa))
  rw [show keyedV v = false by unfold keyedV; rw [decide_eq_false h99]; rfl] at HKE
  have HCL := hide (fun w2 (k : wa.grownBy w2 none) => rClone_d v.depth v w2 B nA nc sA sc lA lc (Nat.le_refl _) (by omega) (Nat.le_trans hBa k.size) (hv.gb k hBa))
  have e3 : (v.t == 3) = false := int_beq_f (fun e => by rw [e] at hn; cases hn)
  have e98 := int_beq_f h98
  have e99 := int_beq_f h99
  have e00 := int_beq_f h0t
  clear h hg hwa hr hs ht hB hv hBa HV h98 h99 h0t hn hk
  generalize v.count = cn at *
  go_enter Try.func11, Try.ntmps11
  go_wp2_with fail
  rw [← HWE.out]
  go_wp2_with (first
    | (go_at_call 16; refine HCT.out.mono ?_; rintro e w1 ⟨rfl, hg1⟩; have HG1 := hide hg1; have HGS1 := hide hg1; have b0 := cell_gb b0 hg1; have b1 := cell_gb b1 hg1; have b2 := cell_gb b2 hg1; have b3 := cell_gb b3 hg1; clear hg1)
    | (go_at_call 48; refine (HVE.out _).mono ?_; rintro e w2 ⟨rfl, hg2⟩; have HG2 := hide (gb_trans HG1.out hg2 (.inl rfl)); have b0 := cell_gb b0 hg2; have b1 := cell_gb b1 hg2; have b2 := cell_gb b2 hg2; have b3 := cell_gb b3 hg2; clear hg2)
    | (go_at_call 50; refine (HKE.out _ HG2.out).mono ?_; rintro e w3 ⟨rfl, hg3⟩; have HG3 := hide (gb_trans HG2.out hg3 (.inl rfl)); have b0 := cell_gb b0 hg3; have b1 := cell_gb b1 hg3; have b2 := cell_gb b2 hg3; have b3 := cell_gb b3 hg3; clear hg3)
    | (go_at_call 35; refine (HCL.out _ HG3.out).mono ?_; rintro e w4 ⟨xA, xc, yA, yc, zA, zc, f, rfl, ho, hn, hg4⟩; have hrr := ((gb_trans HG3.out hg4 (.inl rfl)).block _ (by have := HS.out; omega) (by simp)).trans HR.out; have HRR := hide hrr; have z0 := blk_frozen hrr 0; have z1 := blk_frozen hrr 1; have z2 := blk_frozen hrr 2; have z3 := blk_frozen hrr 3; have p0 : w4.cell? ⟨w.heap.size + 1, 0, none⟩ = some (.int .i64 0) := (by { rw [blk_cell hrr]; rfl }); have p1 : w4.cell? ⟨w.heap.size + 1, 1, none⟩ = some (.slice none 0 0) := (by { rw [blk_cell hrr]; rfl }); have p2 : w4.cell? ⟨w.heap.size + 1, 2, none⟩ = some (.slice none 0 0) := (by { rw [blk_cell hrr]; rfl }); have p3 : w4.cell? ⟨w.heap.size + 1, 3, none⟩ = some (.slice none 0 0) := (by { rw [blk_cell hrr]; rfl }); have HF := hide (NewE.fin (x := v) ho (hn.less HG3.out.size) HG.out (gb_trans HG3.out hg4 (.inl rfl)) (Nat.le_succ w.heap.size) (by have := HS.out; omega)); clear ho hn hg4 hrr))
  obtain ⟨m0, m1, m2, m3⟩ := C4.put HRR.out (.int .i64 v.t) (.slice xA v.n.length xc) (.slice yA v.s.length yc) (.slice zA v.l.length zc)
  simp only [put4, Nat.zero_add] at m0 m1 m2 m3
  refine bodyPost_ret (v := .tuple #[.agg #[.int .i64 v.t, .slice xA v.n.length xc, .slice yA v.s.length yc, .slice zA v.l.length zc], .int .i64 0]) (by simp [results, Try.results11, go_sem, m0, m1, m2, m3]) rfl ?_
  exact HF.out

set_option maxHeartbeats 8000000 in
set_option maxRecDepth 100000 in
theorem rAt_vec (v : Vl) (k : Nat) (w : World) (B : Nat) (nA : Option Addr) (nc : Nat) (sA : Option Addr) (sc : Nat) (lA : Option Addr) (lc : Nat) (hty : v.t = 1 ∨ v.t = 2 ∨ v.t = 4 ∨ v.t = 5) (hk : k < v.n.length) (ht : v.tot ≤ 500000) (hB : B ≤ w.heap.size) (h : VB w B v nA nc sA sc lA lc) :
    Calls Try.prog 11 #[.agg #[.int .i64 v.t, .slice nA v.n.length nc, .slice sA v.s.length sc, .slice lA v.l.length lc], .int .i64 (k : Int)] w (NewE (.mk (-v.t) [v.n[k]] [] []) w) := by
  obtain ⟨wa, hwa⟩ : ∃ wa, wa = (w.alloc (.cells #[.int .i64 v.t, .slice nA v.n.length nc, .slice sA v.s.length sc, .slice lA v.l.length lc] 26)).alloc (.cells #[.int .i64 0, .slice none 0 0, .slice none 0 0, .slice none 0 0] 26) := ⟨_, rfl⟩
  obtain ⟨hc, hr, hg, hs⟩ := AtB.mk_ w v nA nc sA sc lA lc
  rw [← hwa] at hc hr hg hs
  have HC := hide hc
  obtain ⟨b0, b1, b2, b3⟩ := hc
  have hv := h.gb hg hB
  have hBa := Nat.le_trans hB hg.size
  have HV := hide hv
  have HBA := hide hBa
  have HCT := hide (rCount_any v wa B nA nc sA sc lA lc (by omega) hBa hv)
  have HG := hide hg
  have HR := hide hr
  have HWE := hide hwa
  have HS := hide hs
  have HT := hide ht
  have h0 : 0 ≤ (k : Int) := by omega
  obtain ⟨l1, l2, l3, l4⟩ := Vl.lens v (by omega)
  rw [count_num hty] at HCT
  obtain ⟨a, ha, _, hcl⟩ := hv.n.i64 hk
  subst ha
  have hk1 : ¬ (v.n.length : Int) ≤ (k : Int) := by omega
  obtain ⟨x, hx⟩ : ∃ x, x = v.n[k] := ⟨_, rfl⟩
  rw [← hx] at hcl ⊢
  clear hx
  have HVE := hide (fun w2 => rVec_any v.t (.slice (some a) v.n.length nc) (.slice sA v.s.length sc) (.slice lA v.l.length lc) w2)
  rw [show rVec v.t = true by unfold rVec; rw [Bool.and_eq_true, decide_eq_true_eq, decide_eq_true_eq]; omega] at HVE
  obtain ⟨X, hX⟩ : ∃ X, X = Vl.mk (-v.t) [x] [] [] := ⟨_, rfl⟩
  have HAN := hide (fun w2 => rAtomN_any v.t x hty w2)
  rw [← hX] at HAN ⊢
  clear hX
  have e3 : (v.t == 3) = false := int_beq_f (by omega)
  clear h hg hwa hr hs ht hB hv hBa HV hty
  generalize v.t = t at *
  go_enter Try.func11, Try.ntmps11
  go_wp2_with fail
  rw [← HWE.out]
  go_wp2_with (first
    | (go_at_call 16; refine HCT.out.mono ?_; rintro e w1 ⟨rfl, hg1⟩; have HG1 := hide hg1; have HGS1 := hide hg1; have b0 := cell_gb b0 hg1; have b1 := cell_gb b1 hg1; have b2 := cell_gb b2 hg1; have b3 := cell_gb b3 hg1; have hcl := cell_gb hcl hg1; clear hg1)
    | (go_at_call 48; refine (HVE.out _).mono ?_; rintro e w2 ⟨rfl, hg2⟩; have HG2 := hide (gb_trans HG1.out hg2 (.inl rfl)); have b0 := cell_gb b0 hg2; have b1 := cell_gb b1 hg2; have b2 := cell_gb b2 hg2; have b3 := cell_gb b3 hg2; have hcl := cell_gb hcl hg2; clear hg2))
  go_region_law
    ((go_simp; go_at_call 42; refine (HAN.out _).mono ?_; rintro e w3 ⟨xA, xc, yA, yc, zA, zc, f, rfl, ho, hn, hg3⟩; have hrr := ((gb_trans (gb_drew HG2.out) hg3 (.inl rfl)).block _ (by have := HS.out; omega) (by simp)).trans HR.out; have HRR := hide hrr; have z0 := blk_frozen hrr 0; have z1 := blk_frozen hrr 1; have z2 := blk_frozen hrr 2; have z3 := blk_frozen hrr 3; have p0 : w3.cell? ⟨w.heap.size + 1, 0, none⟩ = some (.int .i64 0) := (by { rw [blk_cell hrr]; rfl }); have p1 : w3.cell? ⟨w.heap.size + 1, 1, none⟩ = some (.slice none 0 0) := (by { rw [blk_cell hrr]; rfl }); have p2 : w3.cell? ⟨w.heap.size + 1, 2, none⟩ = some (.slice none 0 0) := (by { rw [blk_cell hrr]; rfl }); have p3 : w3.cell? ⟨w.heap.size + 1, 3, none⟩ = some (.slice none 0 0) := (by { rw [blk_cell hrr]; rfl }); have HF := hide (NewE.fin (x := X) ho (hn.less (gb_drew HG2.out).size) HG.out (gb_trans (gb_drew HG2.out) hg3 (.inl rfl)) (Nat.le_succ w.heap.size) (by have := HS.out; omega)); clear ho hn hg3 hrr))
  all_goals
    go_wp2_with fail
    obtain ⟨m0, m1, m2, m3⟩ := C4.put HRR.out (.int .i64 X.t) (.slice xA X.n.length xc) (.slice yA X.s.length yc) (.slice zA X.l.length zc)
    simp only [put4, Nat.zero_add] at m0 m1 m2 m3
    refine bodyPost_ret (v := .tuple #[.agg #[.int .i64 X.t, .slice xA X.n.length xc, .slice yA X.s.length yc, .slice zA X.l.length zc], .int .i64 0]) (by simp [results, Try.results11, go_sem, m0, m1, m2, m3]) rfl ?_
    exact HF.out

theorem rAt_col : RAtCol := by
  intro v i w B nA nc sA sc lA lc hc hi ht hB h
  rcases col_types hc with e | e | e
  · have hl : i < v.l.length := by rw [count_lst e] at hi; exact hi
    rw [elem_lst e, getD_at hl]
    exact rAt_lst v i w B nA nc sA sc lA lc e hl ht hB h
  · have hl : i < v.s.length := by rw [count_sym e] at hi; exact hi
    rw [elem_sym e, getD_at hl]
    exact rAt_sym v i w B nA nc sA sc lA lc e hl ht hB h
  · have hl : i < v.n.length := by rw [count_num e] at hi; exact hi
    rw [elem_num e, getD_at hl]
    exact rAt_vec v i w B nA nc sA sc lA lc e hl ht hB h

set_option maxHeartbeats 8000000 in
set_option maxRecDepth 100000 in
theorem rAt_tab (v : Vl) (k : Nat) (w : World) (B : Nat) (nA : Option Addr) (nc : Nat) (sA : Option Addr) (sc : Nat) (lA : Option Addr) (lc : Nat) (hty : v.t = 98) (hok : rowOk [v] k) (hcol : ∀ c ∈ v.l, rCol c.t = true) (hl0 : 0 < v.l.length) (hk : k < v.count) (ht : v.tot ≤ 500000) (hB : B ≤ w.heap.size) (h : VB w B v nA nc sA sc lA lc) :
    Calls Try.prog 11 #[.agg #[.int .i64 v.t, .slice nA v.n.length nc, .slice sA v.s.length sc, .slice lA v.l.length lc], .int .i64 (k : Int)] w (NewE (rowV [v] k) w) := by
  obtain ⟨wa, hwa⟩ : ∃ wa, wa = (w.alloc (.cells #[.int .i64 v.t, .slice nA v.n.length nc, .slice sA v.s.length sc, .slice lA v.l.length lc] 26)).alloc (.cells #[.int .i64 0, .slice none 0 0, .slice none 0 0, .slice none 0 0] 26) := ⟨_, rfl⟩
  obtain ⟨hc, hr, hg, hs⟩ := AtB.mk_ w v nA nc sA sc lA lc
  rw [← hwa] at hc hr hg hs
  have HC := hide hc
  obtain ⟨b0, b1, b2, b3⟩ := hc
  have hv := h.gb hg hB
  have hBa := Nat.le_trans hB hg.size
  have HV := hide hv
  have HBA := hide hBa
  have HCT := hide (rCount_any v wa B nA nc sA sc lA lc (by omega) hBa hv)
  have HG := hide hg
  have HR := hide hr
  have HWE := hide hwa
  have HS := hide hs
  have HT := hide ht
  have h0 : 0 ≤ (k : Int) := by omega
  obtain ⟨l1, l2, l3, l4⟩ := Vl.lens v (by omega)
  have hk1 : ¬ (v.count : Int) ≤ (k : Int) := by omega
  have HVE := hide (fun w2 => rVec_any v.t (.slice nA v.n.length nc) (.slice sA v.s.length sc) (.slice lA v.l.length lc) w2)
  rw [hty, show rVec 98 = false from rfl] at HVE
  obtain ⟨X, hX⟩ : ∃ X, X = rowV [v] k := ⟨_, rfl⟩
  have HRW : Hid (∀ w2, wa.grownBy w2 none → Calls Try.prog 49 #[.slice (some ⟨w2.heap.size, 0, none⟩) 1 1, .int .i64 (k : Int)] (w2.alloc (.cells #[.int .i64 v.t, .slice nA v.n.length nc, .slice sA v.s.length sc, .slice lA v.l.length lc] 26)) (NewV X (w2.alloc (.cells #[.int .i64 v.t, .slice nA v.n.length nc, .slice sA v.s.length sc, .slice lA v.l.length lc] 26)))) := hide (fun w2 hk2 => by
    have hv2 := (hv.gb hk2 hBa).up (Nat.le_trans hBa hk2.size)
    rw [hX]
    exact rRow_walk rAt_col [v] k hok (fun t ht => by obtain rfl := List.mem_singleton.1 ht; exact hcol) (by simpa using hl0) (w2.alloc (.cells #[.int .i64 v.t, .slice nA v.n.length nc, .slice sA v.s.length sc, .slice lA v.l.length lc] 26)) (w2.heap.size + 1) (some ⟨w2.heap.size, 0, none⟩) 1 (by simp only [Vl.tots]; omega) (by simp) (RdV.lit1 hv2.at_))
  rw [← hX]
  clear hX
  rw [hty] at HRW
  clear h hg hwa hr hs ht hB hv hBa HV hok hcol hl0 hk
  generalize v.count = cn at *
  generalize v.t = t at *
  subst hty
  go_enter Try.func11, Try.ntmps11
  go_wp2_with fail
  rw [← HWE.out]
  go_wp2_with (first
    | (go_at_call 16; refine HCT.out.mono ?_; rintro e w1 ⟨rfl, hg1⟩; have HG1 := hide hg1; have HGS1 := hide hg1; have b0 := cell_gb b0 hg1; have b1 := cell_gb b1 hg1; have b2 := cell_gb b2 hg1; have b3 := cell_gb b3 hg1; clear hg1)
    | (go_at_call 48; refine (HVE.out _).mono ?_; rintro e w2 ⟨rfl, hg2⟩; have HG2 := hide (gb_trans HG1.out hg2 (.inl rfl)); have b0 := cell_gb b0 hg2; have b1 := cell_gb b1 hg2; have b2 := cell_gb b2 hg2; have b3 := cell_gb b3 hg2; clear hg2)
    | (go_at_call 49; have HGB2 := hide (gb_trans HG2.out (gb_alloc (gb_refl w2 none) (.cells #[.int .i64 98, .slice nA v.n.length nc, .slice sA v.s.length sc, .slice lA v.l.length lc] 26)) (.inl rfl)); refine (HRW.out _ HG2.out).mono ?_; rintro e w3 ⟨xA, xc, yA, yc, zA, zc, f, rfl, ho, hn, hg3⟩; have hrr := ((gb_trans HGB2.out hg3 (.inl rfl)).block _ (by have := HS.out; omega) (by simp)).trans HR.out; have HRR := hide hrr; have z0 := blk_frozen hrr 0; have z1 := blk_frozen hrr 1; have z2 := blk_frozen hrr 2; have z3 := blk_frozen hrr 3; have p0 : w3.cell? ⟨w.heap.size + 1, 0, none⟩ = some (.int .i64 0) := (by { rw [blk_cell hrr]; rfl }); have p1 : w3.cell? ⟨w.heap.size + 1, 1, none⟩ = some (.slice none 0 0) := (by { rw [blk_cell hrr]; rfl }); have p2 : w3.cell? ⟨w.heap.size + 1, 2, none⟩ = some (.slice none 0 0) := (by { rw [blk_cell hrr]; rfl }); have p3 : w3.cell? ⟨w.heap.size + 1, 3, none⟩ = some (.slice none 0 0) := (by { rw [blk_cell hrr]; rfl }); have HF := hide (NewE.fin (x := X) ho (hn.less HGB2.out.size) HG.out (gb_trans HGB2.out hg3 (.inl rfl)) (Nat.le_succ w.heap.size) (by have := HS.out; omega)); clear ho hn hg3 hrr))
  obtain ⟨m0, m1, m2, m3⟩ := C4.put HRR.out (.int .i64 X.t) (.slice xA X.n.length xc) (.slice yA X.s.length yc) (.slice zA X.l.length zc)
  simp only [put4, Nat.zero_add] at m0 m1 m2 m3
  refine bodyPost_ret (v := .tuple #[.agg #[.int .i64 X.t, .slice xA X.n.length xc, .slice yA X.s.length yc, .slice zA X.l.length zc], .int .i64 0]) (by simp [results, Try.results11, go_sem, m0, m1, m2, m3]) rfl ?_
  exact HF.out

set_option maxHeartbeats 8000000 in
set_option maxRecDepth 100000 in
theorem rAt_keyed (v : Vl) (k : Nat) (w : World) (B : Nat) (nA : Option Addr) (nc : Nat) (sA : Option Addr) (sc : Nat) (lA : Option Addr) (lc : Nat) (hty : v.t = 99) (hke : keyedV v = true) (hok : rowOk v.l k) (hcol : ∀ t ∈ v.l, ∀ c ∈ t.l, rCol c.t = true) (hl0 : 0 < (v.l.flatMap Vl.l).length) (hk : k < v.count) (ht : v.tot ≤ 500000) (hB : B ≤ w.heap.size) (h : VB w B v nA nc sA sc lA lc) :
    Calls Try.prog 11 #[.agg #[.int .i64 v.t, .slice nA v.n.length nc, .slice sA v.s.length sc, .slice lA v.l.length lc], .int .i64 (k : Int)] w (NewE (rowV v.l k) w) := by
  obtain ⟨wa, hwa⟩ : ∃ wa, wa = (w.alloc (.cells #[.int .i64 v.t, .slice nA v.n.length nc, .slice sA v.s.length sc, .slice lA v.l.length lc] 26)).alloc (.cells #[.int .i64 0, .slice none 0 0, .slice none 0 0, .slice none 0 0] 26) := ⟨_, rfl⟩
  obtain ⟨hc, hr, hg, hs⟩ := AtB.mk_ w v nA nc sA sc lA lc
  rw [← hwa] at hc hr hg hs
  have HC := hide hc
  obtain ⟨b0, b1, b2, b3⟩ := hc
  have hv := h.gb hg hB
  have hBa := Nat.le_trans hB hg.size
  have HV := hide hv
  have HBA := hide hBa
  have HCT := hide (rCount_any v wa B nA nc sA sc lA lc (by omega) hBa hv)
  have HG := hide hg
  have HR := hide hr
  have HWE := hide hwa
  have HS := hide hs
  have HT := hide ht
  have h0 : 0 ≤ (k : Int) := by omega
  obtain ⟨l1, l2, l3, l4⟩ := Vl.lens v (by omega)
  have hk1 : ¬ (v.count : Int) ≤ (k : Int) := by omega
  have HVE := hide (fun w2 => rVec_any v.t (.slice nA v.n.length nc) (.slice sA v.s.length sc) (.slice lA v.l.length lc) w2)
  rw [hty, show rVec 99 = false from rfl] at HVE
  have HKE := hide (fun w2 (k : wa.grownBy w2 none) => rKeyed_any v w2 B nA nc sA sc lA lc (by omega) (Nat.le_trans hBa k.size) (hv.gb k hBa))
  rw [hke, hty] at HKE
  obtain ⟨X, hX⟩ : ∃ X, X = rowV v.l k := ⟨_, rfl⟩
  have HRW : Hid (∀ w2, wa.grownBy w2 none → Calls Try.prog 49 #[.slice lA v.l.length lc, .int .i64 (k : Int)] w2 (NewV X w2)) := hide (fun w2 hk2 => by
    rw [hX]
    exact rRow_walk rAt_col v.l k hok hcol hl0 w2 B lA lc (by have := Vl.tot_def v; omega) (Nat.le_trans hBa hk2.size) (hv.gb hk2 hBa).l)
  rw [← hX]
  clear hX
  clear h hg hwa hr hs ht hB hv hBa HV hok hcol hl0 hk hke
  generalize v.count = cn at *
  generalize v.t = t at *
  subst hty
  go_enter Try.func11, Try.ntmps11
  go_wp2_with fail
  rw [← HWE.out]
  go_wp2_with (first
    | (go_at_call 16; refine HCT.out.mono ?_; rintro e w1 ⟨rfl, hg1⟩; have HG1 := hide hg1; have HGS1 := hide hg1; have b0 := cell_gb b0 hg1; have b1 := cell_gb b1 hg1; have b2 := cell_gb b2 hg1; have b3 := cell_gb b3 hg1; clear hg1)
    | (go_at_call 48; refine (HVE.out _).mono ?_; rintro e w2 ⟨rfl, hg2⟩; have HG2 := hide (gb_trans HG1.out hg2 (.inl rfl)); have b0 := cell_gb b0 hg2; have b1 := cell_gb b1 hg2; have b2 := cell_gb b2 hg2; have b3 := cell_gb b3 hg2; clear hg2)
    | (go_at_call 50; refine (HKE.out _ HG2.out).mono ?_; rintro e w3 ⟨rfl, hg3⟩; have HG3 := hide (gb_trans HG2.out hg3 (.inl rfl)); have b0 := cell_gb b0 hg3; have b1 := cell_gb b1 hg3; have b2 := cell_gb b2 hg3; have b3 := cell_gb b3 hg3; clear hg3)
    | (go_at_call 49; refine (HRW.out _ HG3.out).mono ?_; rintro e w4 ⟨xA, xc, yA, yc, zA, zc, f, rfl, ho, hn, hg4⟩; have hrr := ((gb_trans HG3.out hg4 (.inl rfl)).block _ (by have := HS.out; omega) (by simp)).trans HR.out; have HRR := hide hrr; have z0 := blk_frozen hrr 0; have z1 := blk_frozen hrr 1; have z2 := blk_frozen hrr 2; have z3 := blk_frozen hrr 3; have p0 : w4.cell? ⟨w.heap.size + 1, 0, none⟩ = some (.int .i64 0) := (by { rw [blk_cell hrr]; rfl }); have p1 : w4.cell? ⟨w.heap.size + 1, 1, none⟩ = some (.slice none 0 0) := (by { rw [blk_cell hrr]; rfl }); have p2 : w4.cell? ⟨w.heap.size + 1, 2, none⟩ = some (.slice none 0 0) := (by { rw [blk_cell hrr]; rfl }); have p3 : w4.cell? ⟨w.heap.size + 1, 3, none⟩ = some (.slice none 0 0) := (by { rw [blk_cell hrr]; rfl }); have HF := hide (NewE.fin (x := X) ho (hn.less HG3.out.size) HG.out (gb_trans HG3.out hg4 (.inl rfl)) (Nat.le_succ w.heap.size) (by have := HS.out; omega)); clear ho hn hg4 hrr))
  obtain ⟨m0, m1, m2, m3⟩ := C4.put HRR.out (.int .i64 X.t) (.slice xA X.n.length xc) (.slice yA X.s.length yc) (.slice zA X.l.length zc)
  simp only [put4, Nat.zero_add] at m0 m1 m2 m3
  refine bodyPost_ret (v := .tuple #[.agg #[.int .i64 X.t, .slice xA X.n.length xc, .slice yA X.s.length yc, .slice zA X.l.length zc], .int .i64 0]) (by simp [results, Try.results11, go_sem, m0, m1, m2, m3]) rfl ?_
  exact HF.out

set_option maxHeartbeats 8000000 in
set_option maxRecDepth 100000 in
theorem rAt_dict (v : Vl) (k : Nat) (w : World) (B : Nat) (nA : Option Addr) (nc : Nat) (sA : Option Addr) (sc : Nat) (lA : Option Addr) (lc : Nat) (hty : v.t = 99) (hke : keyedV v = false) (hl1 : 1 < v.l.length) (hcol : rCol v.l[1].t = true) (hkb : k < v.l[1].count) (hk : k < v.count) (ht : v.tot ≤ 500000) (hB : B ≤ w.heap.size) (h : VB w B v nA nc sA sc lA lc) :
    Calls Try.prog 11 #[.agg #[.int .i64 v.t, .slice nA v.n.length nc, .slice sA v.s.length sc, .slice lA v.l.length lc], .int .i64 (k : Int)] w (NewE (elemV v.l[1] k) w) := by
  obtain ⟨wa, hwa⟩ : ∃ wa, wa = (w.alloc (.cells #[.int .i64 v.t, .slice nA v.n.length nc, .slice sA v.s.length sc, .slice lA v.l.length lc] 26)).alloc (.cells #[.int .i64 0, .slice none 0 0, .slice none 0 0, .slice none 0 0] 26) := ⟨_, rfl⟩
  obtain ⟨hc, hr, hg, hs⟩ := AtB.mk_ w v nA nc sA sc lA lc
  rw [← hwa] at hc hr hg hs
  have HC := hide hc
  obtain ⟨b0, b1, b2, b3⟩ := hc
  have hv := h.gb hg hB
  have hBa := Nat.le_trans hB hg.size
  have HV := hide hv
  have HBA := hide hBa
  have HCT := hide (rCount_any v wa B nA nc sA sc lA lc (by omega) hBa hv)
  have HG := hide hg
  have HR := hide hr
  have HWE := hide hwa
  have HS := hide hs
  have HT := hide ht
  have h0 : 0 ≤ (k : Int) := by omega
  obtain ⟨l1, l2, l3, l4⟩ := Vl.lens v (by omega)
  have hk1 : ¬ (v.count : Int) ≤ (k : Int) := by omega
  have HVE := hide (fun w2 => rVec_any v.t (.slice nA v.n.length nc) (.slice sA v.s.length sc) (.slice lA v.l.length lc) w2)
  rw [hty, show rVec 99 = false from rfl] at HVE
  have HKE := hide (fun w2 (k : wa.grownBy w2 none) => rKeyed_any v w2 B nA nc sA sc lA lc (by omega) (Nat.le_trans hBa k.size) (hv.gb k hBa))
  rw [hke, hty] at HKE
  obtain ⟨q, o, xA1, xc1, yA1, yc1, zA1, zc1, rfl, hqB, hc4', hvb'⟩ := hv.l.at_ hl1
  obtain ⟨y, hy⟩ : ∃ y, y = v.l[1] := ⟨_, rfl⟩
  have hc4 : C4 wa q (o + 4) (.int .i64 y.t) (.slice xA1 y.n.length xc1) (.slice yA1 y.s.length yc1) (.slice zA1 y.l.length zc1) := by subst hy; exact hc4'
  have hvb : VB wa B y xA1 xc1 yA1 yc1 zA1 zc1 := by subst hy; exact hvb'
  have hyt : y.tot ≤ 500000 := by subst hy; have h1 := Vl.tot_mem (List.getElem_mem hl1); have h2 := Vl.tot_def v; omega
  rw [show elemV v.l[1] k = elemV y k by rw [hy]]
  have hyc : rCol y.t = true := by rw [hy]; exact hcol
  have hyk : k < y.count := by rw [hy]; exact hkb
  clear hy hc4' hvb' hcol hkb
  obtain ⟨X, hX⟩ : ∃ X, X = elemV y k := ⟨_, rfl⟩
  have HRE : Hid (∀ w2, wa.grownBy w2 none → Calls Try.prog 11 #[.agg #[.int .i64 y.t, .slice xA1 y.n.length xc1, .slice yA1 y.s.length yc1, .slice zA1 y.l.length zc1], .int .i64 (k : Int)] w2 (NewE X w2)) := hide (fun w2 hk2 => by
    rw [hX]
    exact rAt_col y k w2 B xA1 xc1 yA1 yc1 zA1 zc1 hyc hyk hyt (Nat.le_trans hBa hk2.size) (hvb.gb hk2 hBa))
  rw [← hX]
  clear hX hyc hyk hyt
  obtain ⟨d0, d1, d2, d3⟩ := hc4
  have h11 : (1 : Int) < (v.l.length : Int) := by omega
  clear h hg hwa hr hs ht hB hv hBa HV hk hke hl1 hvb hqB
  generalize v.count = cn at *
  generalize v.t = t at *
  subst hty
  go_enter Try.func11, Try.ntmps11
  go_wp2_with fail
  rw [← HWE.out]
  go_wp2_with (first
    | (go_at_call 16; refine HCT.out.mono ?_; rintro e w1 ⟨rfl, hg1⟩; have HG1 := hide hg1; have HGS1 := hide hg1; have b0 := cell_gb b0 hg1; have b1 := cell_gb b1 hg1; have b2 := cell_gb b2 hg1; have b3 := cell_gb b3 hg1; have d0 := cell_gb d0 hg1; have d1 := cell_gb d1 hg1; have d2 := cell_gb d2 hg1; have d3 := cell_gb d3 hg1; clear hg1)
    | (go_at_call 48; refine (HVE.out _).mono ?_; rintro e w2 ⟨rfl, hg2⟩; have HG2 := hide (gb_trans HG1.out hg2 (.inl rfl)); have b0 := cell_gb b0 hg2; have b1 := cell_gb b1 hg2; have b2 := cell_gb b2 hg2; have b3 := cell_gb b3 hg2; have d0 := cell_gb d0 hg2; have d1 := cell_gb d1 hg2; have d2 := cell_gb d2 hg2; have d3 := cell_gb d3 hg2; clear hg2)
    | (go_at_call 50; refine (HKE.out _ HG2.out).mono ?_; rintro e w3 ⟨rfl, hg3⟩; have HG3 := hide (gb_trans HG2.out hg3 (.inl rfl)); have b0 := cell_gb b0 hg3; have b1 := cell_gb b1 hg3; have b2 := cell_gb b2 hg3; have b3 := cell_gb b3 hg3; have d0 := cell_gb d0 hg3; have d1 := cell_gb d1 hg3; have d2 := cell_gb d2 hg3; have d3 := cell_gb d3 hg3; clear hg3)
    | (go_at_call 11; refine (HRE.out _ HG3.out).mono ?_; rintro e w4 ⟨xA, xc, yA, yc, zA, zc, f, rfl, ho, hn, hg4⟩; have hrr := ((gb_trans HG3.out hg4 (.inl rfl)).block _ (by have := HS.out; omega) (by simp)).trans HR.out; have HRR := hide hrr; have z0 := blk_frozen hrr 0; have z1 := blk_frozen hrr 1; have z2 := blk_frozen hrr 2; have z3 := blk_frozen hrr 3; have p0 : w4.cell? ⟨w.heap.size + 1, 0, none⟩ = some (.int .i64 0) := (by { rw [blk_cell hrr]; rfl }); have p1 : w4.cell? ⟨w.heap.size + 1, 1, none⟩ = some (.slice none 0 0) := (by { rw [blk_cell hrr]; rfl }); have p2 : w4.cell? ⟨w.heap.size + 1, 2, none⟩ = some (.slice none 0 0) := (by { rw [blk_cell hrr]; rfl }); have p3 : w4.cell? ⟨w.heap.size + 1, 3, none⟩ = some (.slice none 0 0) := (by { rw [blk_cell hrr]; rfl }); have HF := hide (NewE.fin (x := X) ho (hn.less HG3.out.size) HG.out (gb_trans HG3.out hg4 (.inl rfl)) (Nat.le_succ w.heap.size) (by have := HS.out; omega)); clear ho hn hg4 hrr))
  obtain ⟨m0, m1, m2, m3⟩ := C4.put HRR.out (.int .i64 X.t) (.slice xA X.n.length xc) (.slice yA X.s.length yc) (.slice zA X.l.length zc)
  simp only [put4, Nat.zero_add] at m0 m1 m2 m3
  refine bodyPost_ret (v := .tuple #[.agg #[.int .i64 X.t, .slice xA X.n.length xc, .slice yA X.s.length yc, .slice zA X.l.length zc], .int .i64 0]) (by simp [results, Try.results11, go_sem, m0, m1, m2, m3]) rfl ?_
  exact HF.out

theorem atPost_some (x : Vl) (w : World) : AtPost (some x) w = NewE x w := rfl
/-- The document's At of a good value: as the program's. -/
theorem rAt_any (v : Vl) (i : Int) (w : World) (B : Nat) (nA : Option Addr) (nc : Nat) (sA : Option Addr) (sc : Nat) (lA : Option Addr) (lc : Nat) (hk : okV v) (ht : v.tot ≤ 500000) (hB : B ≤ w.heap.size) (h : VB w B v nA nc sA sc lA lc) :
    Calls Try.prog 11 #[.agg #[.int .i64 v.t, .slice nA v.n.length nc, .slice sA v.s.length sc, .slice lA v.l.length lc], .int .i64 i] w (AtPost (if 0 ≤ i ∧ i < (v.count : Int) then atF v.depth v i else none) w) := by
  by_cases hi : 0 ≤ i ∧ i < (v.count : Int)
  · rw [if_pos hi]
    obtain ⟨k, rfl⟩ : ∃ k : Nat, i = (k : Int) := ⟨i.toNat, by omega⟩
    have hkc : k < v.count := by omega
    obtain ⟨h1, h2, h3, h4, h5⟩ := ok_own hk
    obtain ⟨p1, p2, p3, p4, p5, p6⟩ := plain_of h4
    obtain ⟨d, hde⟩ : ∃ d, v.depth = d + 1 := ⟨_, Vl.depth_def v⟩
    by_cases hc : rCol v.t = true
    · rw [atF_col hc hkc, atPost_some]
      exact rAt_col v k w B nA nc sA sc lA lc hc hkc ht hB h
    by_cases h98 : v.t = 98
    · have hro := tab_rowOk hk h98 hkc
      obtain ⟨q1, q2, q3, q4, q5, q6⟩ := tab_ok hk h98
      rw [hde]
      unfold atF
      rw [if_pos h98, if_pos ((rowB_iff _ _).2 hro)]
      rw [atPost_some, Int.toNat_natCast]
      exact rAt_tab v k w B nA nc sA sc lA lc h98 hro (fun c hc => (q6 c hc).1) (by omega) hkc ht hB h
    by_cases h99 : v.t = 99
    · have hdic := p4 h99
      have hlab : ∃ a b, v.l = [a, b] := by
        unfold dicV at hdic
        match hl : v.l with
        | [] => rw [hl] at hdic; exact absurd hdic (by simp)
        | [_] => rw [hl] at hdic; exact absurd hdic (by simp)
        | _ :: _ :: _ :: _ => rw [hl] at hdic; exact absurd hdic (by simp)
        | [a, b] => exact ⟨a, b, rfl⟩
      obtain ⟨a, b, hl⟩ := hlab
      · skip
        have ha := ((okV_iff v).1 hk).2 a (by rw [hl]; simp)
        have hb := ((okV_iff v).1 hk).2 b (by rw [hl]; simp)
        have hcount : v.count = a.count := by rw [Vl.count_def, if_neg (by omega), if_neg (by omega), if_neg (by omega), if_pos (by omega), hl]; rfl
        have hbc : b.count = a.count := by
          unfold evenV evenL at h5
          rw [decide_eq_false (by omega), Bool.false_or, hl] at h5
          simp only [List.all_cons, List.all_nil, Vl.countH, Bool.and_true, Bool.and_eq_true, decide_eq_true_eq] at h5
          exact of_decide_eq_true h5.2
        unfold dicV at hdic
        rw [hl] at hdic
        simp only [Bool.or_eq_true, Bool.and_eq_true, decide_eq_true_eq] at hdic
        rw [hde]
        unfold atF
        rw [if_neg h98, if_pos ⟨h99, by rw [hl]; rfl⟩]
        rcases hdic with ⟨c1, c2⟩ | ⟨c1, c2⟩
        · have hat : isTab a = false := by
            unfold isTab
            rw [beq_eq_false_iff_ne]
            intro e
            rw [e] at c1
            exact absurd c1 (by decide)
          rw [if_neg (by rw [hl]; simp [hat])]
          have hb98 : b.t ≠ 98 := fun e => by rw [e] at c2; exact absurd c2 (by decide)
          have hb99 : b.t ≠ 99 := fun e => by rw [e] at c2; exact absurd c2 (by decide)
          obtain ⟨d', rfl⟩ : ∃ d', d = d' + 1 := by
            have h7 := Vl.depth_lt (v := v) (x := b) (by rw [hl]; simp)
            have := Vl.depth_def b
            exact ⟨d - 1, by omega⟩
          rw [show v.l.getD 1 v = b by rw [hl]; rfl]
          unfold atF
          rw [if_neg hb98, if_neg (fun e => hb99 e.1), if_pos (by omega)]
          have hl1 : 1 < v.l.length := by rw [hl]; simp
          have hvb1 : v.l[1] = b := by simp [hl]
          have := rAt_dict v k w B nA nc sA sc lA lc h99 (by unfold keyedV; rw [decide_eq_false (fun e => by rw [hl] at e; rw [show a.t = 98 from e] at c1; exact absurd c1 (by decide) : ¬ headT v.l = 98)]; simp) hl1 (by rw [hvb1]; exact c2) (by rw [hvb1]; omega) hkc ht hB h
          rw [atPost_some, Int.toNat_natCast]
          rw [hvb1] at this
          exact this
        · have hrow : rowOk [a, b] k := by
            intro t ht c hc
            simp only [List.mem_cons, List.not_mem_nil, or_false] at ht
            rcases ht with rfl | rfl
            · rw [((tab_ok ha c1).2.2.2.2.2 c hc).2.2]; omega
            · rw [((tab_ok hb c2).2.2.2.2.2 c hc).2.2]; omega
          rw [if_pos (by rw [hl]; simp [isTab, c1, c2]), if_pos ((rowB_iff _ _).2 (by rw [hl]; exact hrow))]
          rw [atPost_some, Int.toNat_natCast]
          exact rAt_keyed v k w B nA nc sA sc lA lc h99 (by unfold keyedV; rw [hl]; simp [headT, h99, c1]) (by rw [hl]; exact hrow) (fun t ht c hc => by
            rw [hl] at ht
            simp only [List.mem_cons, List.not_mem_nil, or_false] at ht
            rcases ht with rfl | rfl
            · exact ((tab_ok ha c1).2.2.2.2.2 c hc).1
            · exact ((tab_ok hb c2).2.2.2.2.2 c hc).1) (by
            rw [hl]
            have := tab_ok ha c1
            simp only [List.flatMap_cons, List.flatMap_nil, List.append_nil, List.length_append]
            omega) hkc ht hB h
    · rw [hde]
      unfold atF
      rw [if_neg h98, if_neg (fun e => h99 e.1), if_pos hi]
      have hve : rVec v.t = false := by
        cases hq : rVec v.t
        · rfl
        · exact absurd (by unfold rCol; rw [hq]; rfl) hc
      have h0t : v.t ≠ 0 := fun e => hc (by rw [e]; rfl)
      have hev : elemV v (k : Int).toNat = v := by
        unfold rVec at hve
        rw [Bool.and_eq_false_iff, decide_eq_false_iff_not, decide_eq_false_iff_not] at hve
        unfold elemV
        rw [if_neg h0t, if_neg (by omega), if_neg ?_]
        rintro ⟨q1, q2⟩
        unfold hasN at q2
        simp at q2
        omega
      rw [hev, atPost_some]
      exact rAt_else v k w B nA nc sA sc lA lc hve h98 h99 h0t hkc ht hB h
  · rw [if_neg hi]
    exact rAt_out v i w B nA nc sA sc lA lc (by omega) (by omega) hB h
end Go.Proofs.Ytfckmkpfhchggaa
