/-
  The law VecRounds, walked.
-/
import Derived.Test.YtnilcnobngcbgaaGreatEg
namespace Go.Proofs.YtnilcnobngcbgaaGreat
open Go.RowKit
attribute [local go_sem ↓] Go.wp_at_zero Go.wp_at_succ

theorem doI_one (f : Int → Int → Option Int) (a b n : Int) (h : f a b = some n) : doI f (Vl.mk (-2) [a] [] []) (Vl.mk (-2) [b] [] []) = .ok (-2, [n]) := by
  have h1 : eachO f [a] [b] 0 1 = some [n] := by simp [eachO, h]
  unfold doI
  rw [if_neg (show ¬ ((Vl.mk (-2) [a] [] []).t = 2) from (by decide : ¬ ((-2 : Int) = 2)))]
  have e : eachO f (Vl.mk (-2) [a] [] []).n (Vl.mk (-2) [b] [] []).n 0 (Vl.mk (-2) [b] [] []).n.length = some [n] := h1
  rw [e]
  rfl
set_option maxHeartbeats 8000000 in
set_option maxRecDepth 100000 in
theorem rNullI_any (k : Int) (w : World) (nA : Option Addr) (nc : Nat) (sA : Option Addr) (sc : Nat) (lA : Option Addr) (lc : Nat) (h : VB w w.heap.size (.mk (-2) [k] [] []) nA nc sA sc lA lc) :
    Calls Tryz.prog 22 #[.agg #[.int .i64 (-2), .slice nA 1 nc, .slice sA 0 sc, .slice lA 0 lc], .int .i64 0] w fun e w' => e = .returned (.bool (k == (-9223372036854775808))) ∧ w.grownBy w' none := by
  obtain ⟨wa, hwa⟩ : ∃ wa, wa = w.alloc (.cells #[.int .i64 (-2), .slice nA 1 nc, .slice sA 0 sc, .slice lA 0 lc] 26) := ⟨_, rfl⟩
  have hb : wa.heap[w.heap.size]? = some (.cells #[.int .i64 (-2), .slice nA 1 nc, .slice sA 0 sc, .slice lA 0 lc] 26 (0, 0)) := by rw [hwa]; exact heap_alloc_new w _
  have hg : w.grownBy wa none := by rw [hwa]; exact gb_alloc (gb_refl w none) _
  have HB := hide hb
  have HG := hide hg
  have HWE := hide hwa
  obtain ⟨ad, rfl, _, hcl⟩ := h.n.i64 (k := 0) (by show 0 < 1; decide)
  have hcl : w.cell? (ad.add 0) = some (.int .i64 k) := hcl
  rw [Addr.add_zero'] at hcl
  have HCL := hide hcl
  have HCN := hide (fun w2 (hg : w.grownBy w2 none) => rCount_any (.mk (-2) [k] [] []) w2 w.heap.size (some ad) nc sA sc lA lc (by rw [Vl.tot_def]; show 1 + 1 + 0 + 0 + 0 ≤ 1100000; decide) hg.size (h.gb hg (Nat.le_refl _)))
  have HGX := hide (gb_refl wa none)
  obtain ⟨c0, c1, c2, c3⟩ : C4 wa w.heap.size 0 (.int .i64 (-2)) (.slice (some ad) 1 nc) (.slice sA 0 sc) (.slice lA 0 lc) := ⟨by rw [blk_cell hb]; rfl, by rw [blk_cell hb]; rfl, by rw [blk_cell hb]; rfl, by rw [blk_cell hb]; rfl⟩
  have d0 := c0; have d1 := c1; have d2 := c2; have d3 := c3
  rw [hwa] at d0 d1 d2 d3
  have cl := cell_gb hcl hg
  clear hb hg hwa h hcl
  go_enter Tryz.func22, Tryz.ntmps22
  go_wp2_with fail
  rw [← HWE.out]
  clear d0 d1 d2 d3
  go_wp2_with (first
    | (go_at_call 23; refine (rVec_any _ _ _ _ _).mono ?_; rintro e w1 ⟨rfl, hg1⟩; have HGn := hide (gb_trans HGX.out hg1 (.inl rfl)); have cln := cell_gb cl hg1; clear HGX cl c0 c1 c2 c3; have HGX := hide HGn.out; have cl := cln; clear HGn cln hg1; obtain ⟨c0, c1, c2, c3⟩ : C4 w1 w.heap.size 0 (.int .i64 (-2)) (.slice (some ad) 1 nc) (.slice sA 0 sc) (.slice lA 0 lc) := (by have h := blk_keep HB.out HGX.out (by simp); exact ⟨by rw [blk_cell h]; rfl, by rw [blk_cell h]; rfl, by rw [blk_cell h]; rfl, by rw [blk_cell h]; rfl⟩))
    | (go_at_call 48; refine (rAtom_any _ _ _ _ _).mono ?_; rintro e w1 ⟨rfl, hg1⟩; have HGn := hide (gb_trans HGX.out hg1 (.inl rfl)); have cln := cell_gb cl hg1; clear HGX cl c0 c1 c2 c3; have HGX := hide HGn.out; have cl := cln; clear HGn cln hg1; obtain ⟨c0, c1, c2, c3⟩ : C4 w1 w.heap.size 0 (.int .i64 (-2)) (.slice (some ad) 1 nc) (.slice sA 0 sc) (.slice lA 0 lc) := (by have h := blk_keep HB.out HGX.out (by simp); exact ⟨by rw [blk_cell h]; rfl, by rw [blk_cell h]; rfl, by rw [blk_cell h]; rfl, by rw [blk_cell h]; rfl⟩))
    | (go_at_call 24; refine (HCN.out _ (gb_trans HG.out HGX.out (.inl rfl))).mono ?_; rintro e w1 ⟨rfl, hg1⟩; have HGn := hide (gb_trans HGX.out hg1 (.inl rfl)); have cln := cell_gb cl hg1; clear HGX cl c0 c1 c2 c3; have HGX := hide HGn.out; have cl := cln; clear HGn cln hg1; obtain ⟨c0, c1, c2, c3⟩ : C4 w1 w.heap.size 0 (.int .i64 (-2)) (.slice (some ad) 1 nc) (.slice sA 0 sc) (.slice lA 0 lc) := (by have h := blk_keep HB.out HGX.out (by simp); exact ⟨by rw [blk_cell h]; rfl, by rw [blk_cell h]; rfl, by rw [blk_cell h]; rfl, by rw [blk_cell h]; rfl⟩))
    | (go_at_call 46; refine (rAbs_any _ _).mono ?_; rintro e w1 ⟨rfl, rfl⟩))
  exact bodyPost_ret (v := .bool (k == (-9223372036854775808))) (by simp [results, Tryz.results22, go_sem]) rfl ⟨rfl, gb_trans HG.out HGX.out (.inl rfl)⟩
theorem ia_one {a : Int} (h : I64 a) : IntV (.mk (-2) [a] [] []) := intV_lit _ _ (.inr ⟨rfl, rfl⟩) (by show 1 ≤ 1000000; decide) (by intro k hk; simp at hk; subst hk; exact h)
theorem wrap_back (p n a : Int) (h : p + n = a) (ha : I64 a) : IntKind.i64.wrap (IntKind.i64.wrap p + n) = a := by
  have h1 := ha.1
  have h2 := ha.2
  rw [IntKind.wrap_i64, IntKind.wrap_i64]
  omega
set_option maxHeartbeats 8000000 in
set_option maxRecDepth 100000 in
theorem rounds_null_a (a b : Int) (ha : I64 a) (hb : I64 b) (h : a = (-9223372036854775808)) (w : World) : Calls Tryz.prog 4 #[.int .i64 a, .int .i64 b] w fun e w' => e = .returned (.bool true) ∧ w.grownBy w' none := by
  have ia := ia_one ha
  have ib := ia_one hb
  have ev : doI (strictF quoF) (Vl.mk (-2) [a] [] []) (Vl.mk (-2) [b] [] []) = .ok (-2, [(-9223372036854775808)]) := doI_one _ _ _ _ (by unfold strictF; rw [if_pos (.inl h)])
  have e1 : (a == (-9223372036854775808)) = true := by simp [h]
  clear h
  have HG0 := hide (gb_refl w none)
  clear ha hb
  go_enter Tryz.func4, Tryz.ntmps4
  go_wp2_with fail
  refine (atom_new a _).mono ?_
  rintro e w1 ⟨nA1, nc1, sA1, sc1, lA1, lc1, rfl, hv1, hg1⟩
  have HGn := hide (gb_trans HG0.out hg1 (.inl rfl))
  clear HG0
  have HG0 := hide HGn.out
  clear HGn hg1
  have HV1 := hide hv1
  clear hv1
  go_wp2_with fail
  refine (atom_new b _).mono ?_
  rintro e w2 ⟨nA2, nc2, sA2, sc2, lA2, lc2, rfl, hv2, hg2⟩
  have HV1n := hide ((HV1.out.gb hg2 (Nat.le_refl _)).up hg2.size)
  clear HV1
  have HV1 := hide HV1n.out
  clear HV1n
  have HGn := hide (gb_trans HG0.out hg2 (.inl rfl))
  clear HG0
  have HG0 := hide HGn.out
  clear HGn hg2
  have HV2 := hide hv2
  clear hv2
  go_wp2_with fail
  have CD := do_divide (Vl.mk (-2) [a] [] []) (Vl.mk (-2) [b] [] []) _ _ nA1 nc1 sA1 sc1 lA1 lc1 nA2 nc2 sA2 sc2 lA2 lc2 ia ib (Nat.le_refl _) HV1.out HV2.out
  rw [ev] at CD
  refine CD.mono ?_
  clear CD
  clear HV1
  clear HV2
  intro e w3 hd
  obtain ⟨Aq, cq, rfl, hv, hg3⟩ := DoR.lit 1 rfl hd
  clear hd
  have HGn := hide (gb_trans HG0.out hg3 (.inl rfl))
  clear HG0
  have HG0 := hide HGn.out
  clear HGn hg3
  have HQq := hide hv
  clear hv
  go_wp2_with fail
  obtain ⟨w4, hw4⟩ : ∃ w4, w4 = w3.alloc (.cells #[.int .i64 (-2), .slice Aq 1 cq, .slice none 0 0, .slice none 0 0] 26) := ⟨_, rfl⟩
  have hg4 : w3.grownBy w4 none := by rw [hw4]; exact gb_alloc (gb_refl w3 none) _
  have HBq := hide (show w4.heap[w3.heap.size]? = some (.cells #[.int .i64 (-2), .slice Aq 1 cq, .slice none 0 0, .slice none 0 0] 26 (0, 0)) by rw [hw4]; exact heap_alloc_new w3 _)
  have HQqn := hide ((HQq.out.gb hg4 (Nat.le_refl _)).up hg4.size)
  clear HQq
  have HQq := hide HQqn.out
  clear HQqn
  have HGn := hide (gb_trans HG0.out hg4 (.inl rfl))
  clear HG0
  have HG0 := hide HGn.out
  clear HGn hg4
  rw [← hw4]
  clear hw4
  have cq0 : w4.cell? ⟨w3.heap.size, 0, none⟩ = some (.int .i64 (-2)) := by rw [blk_cell HBq.out]; rfl
  have cq1 : w4.cell? ⟨w3.heap.size, 1, none⟩ = some (.slice Aq 1 cq) := by rw [blk_cell HBq.out]; rfl
  have cq2 : w4.cell? ⟨w3.heap.size, 2, none⟩ = some (.slice none 0 0) := by rw [blk_cell HBq.out]; rfl
  have cq3 : w4.cell? ⟨w3.heap.size, 3, none⟩ = some (.slice none 0 0) := by rw [blk_cell HBq.out]; rfl
  refine (num7_any _ _).mono ?_
  rintro e wn ⟨rfl, rfl⟩
  go_wp2_with fail
  refine (rNullI_any (-9223372036854775808) _ Aq cq none 0 none 0 HQq.out).mono ?_
  rintro e wi ⟨rfl, hgi⟩
  have HQqn := hide ((HQq.out.gb hgi (Nat.le_refl _)).up hgi.size)
  clear HQq
  have HQq := hide HQqn.out
  clear HQqn
  have HBqn := hide (blk_keep HBq.out hgi (by simp))
  clear HBq
  have HBq := hide HBqn.out
  clear HBqn
  have HGn := hide (gb_trans HG0.out hgi (.inl rfl))
  clear HG0
  have HG0 := hide HGn.out
  clear HGn hgi
  go_wp2_with fail
  refine (live7_any _).mono ?_
  rintro e wl ⟨rfl, hgl⟩
  have HQqn := hide ((HQq.out.gb hgl (Nat.le_refl _)).up hgl.size)
  clear HQq
  have HQq := hide HQqn.out
  clear HQqn
  have HBqn := hide (blk_keep HBq.out hgl (by simp))
  clear HBq
  have HBq := hide HBqn.out
  clear HBqn
  have HGn := hide (gb_trans HG0.out hgl (.inl rfl))
  clear HG0
  have HG0 := hide HGn.out
  clear HGn hgl
  go_wp2_with fail
  refine bodyPost_ret (v := .bool true) (by simp [results, Tryz.results4, go_sem]) rfl ⟨rfl, HG0.out⟩
set_option maxHeartbeats 8000000 in
set_option maxRecDepth 100000 in
theorem rounds_null_b (a b : Int) (ha : I64 a) (hb : I64 b) (h0 : a ≠ (-9223372036854775808)) (h : b = (-9223372036854775808)) (w : World) : Calls Tryz.prog 4 #[.int .i64 a, .int .i64 b] w fun e w' => e = .returned (.bool true) ∧ w.grownBy w' none := by
  have ia := ia_one ha
  have ib := ia_one hb
  have ev : doI (strictF quoF) (Vl.mk (-2) [a] [] []) (Vl.mk (-2) [b] [] []) = .ok (-2, [(-9223372036854775808)]) := doI_one _ _ _ _ (by unfold strictF; rw [if_pos (.inr h)])
  have e1 := int_beq_f h0
  have e2 : (b == (-9223372036854775808)) = true := by simp [h]
  clear h0 h
  have HG0 := hide (gb_refl w none)
  clear ha hb
  go_enter Tryz.func4, Tryz.ntmps4
  go_wp2_with fail
  refine (atom_new a _).mono ?_
  rintro e w1 ⟨nA1, nc1, sA1, sc1, lA1, lc1, rfl, hv1, hg1⟩
  have HGn := hide (gb_trans HG0.out hg1 (.inl rfl))
  clear HG0
  have HG0 := hide HGn.out
  clear HGn hg1
  have HV1 := hide hv1
  clear hv1
  go_wp2_with fail
  refine (atom_new b _).mono ?_
  rintro e w2 ⟨nA2, nc2, sA2, sc2, lA2, lc2, rfl, hv2, hg2⟩
  have HV1n := hide ((HV1.out.gb hg2 (Nat.le_refl _)).up hg2.size)
  clear HV1
  have HV1 := hide HV1n.out
  clear HV1n
  have HGn := hide (gb_trans HG0.out hg2 (.inl rfl))
  clear HG0
  have HG0 := hide HGn.out
  clear HGn hg2
  have HV2 := hide hv2
  clear hv2
  go_wp2_with fail
  have CD := do_divide (Vl.mk (-2) [a] [] []) (Vl.mk (-2) [b] [] []) _ _ nA1 nc1 sA1 sc1 lA1 lc1 nA2 nc2 sA2 sc2 lA2 lc2 ia ib (Nat.le_refl _) HV1.out HV2.out
  rw [ev] at CD
  refine CD.mono ?_
  clear CD
  clear HV1
  clear HV2
  intro e w3 hd
  obtain ⟨Aq, cq, rfl, hv, hg3⟩ := DoR.lit 1 rfl hd
  clear hd
  have HGn := hide (gb_trans HG0.out hg3 (.inl rfl))
  clear HG0
  have HG0 := hide HGn.out
  clear HGn hg3
  have HQq := hide hv
  clear hv
  go_wp2_with fail
  obtain ⟨w4, hw4⟩ : ∃ w4, w4 = w3.alloc (.cells #[.int .i64 (-2), .slice Aq 1 cq, .slice none 0 0, .slice none 0 0] 26) := ⟨_, rfl⟩
  have hg4 : w3.grownBy w4 none := by rw [hw4]; exact gb_alloc (gb_refl w3 none) _
  have HBq := hide (show w4.heap[w3.heap.size]? = some (.cells #[.int .i64 (-2), .slice Aq 1 cq, .slice none 0 0, .slice none 0 0] 26 (0, 0)) by rw [hw4]; exact heap_alloc_new w3 _)
  have HQqn := hide ((HQq.out.gb hg4 (Nat.le_refl _)).up hg4.size)
  clear HQq
  have HQq := hide HQqn.out
  clear HQqn
  have HGn := hide (gb_trans HG0.out hg4 (.inl rfl))
  clear HG0
  have HG0 := hide HGn.out
  clear HGn hg4
  rw [← hw4]
  clear hw4
  have cq0 : w4.cell? ⟨w3.heap.size, 0, none⟩ = some (.int .i64 (-2)) := by rw [blk_cell HBq.out]; rfl
  have cq1 : w4.cell? ⟨w3.heap.size, 1, none⟩ = some (.slice Aq 1 cq) := by rw [blk_cell HBq.out]; rfl
  have cq2 : w4.cell? ⟨w3.heap.size, 2, none⟩ = some (.slice none 0 0) := by rw [blk_cell HBq.out]; rfl
  have cq3 : w4.cell? ⟨w3.heap.size, 3, none⟩ = some (.slice none 0 0) := by rw [blk_cell HBq.out]; rfl
  refine (num7_any _ _).mono ?_
  rintro e wn ⟨rfl, rfl⟩
  go_wp2_with fail
  refine (rNullI_any (-9223372036854775808) _ Aq cq none 0 none 0 HQq.out).mono ?_
  rintro e wi ⟨rfl, hgi⟩
  have HQqn := hide ((HQq.out.gb hgi (Nat.le_refl _)).up hgi.size)
  clear HQq
  have HQq := hide HQqn.out
  clear HQqn
  have HBqn := hide (blk_keep HBq.out hgi (by simp))
  clear HBq
  have HBq := hide HBqn.out
  clear HBqn
  have HGn := hide (gb_trans HG0.out hgi (.inl rfl))
  clear HG0
  have HG0 := hide HGn.out
  clear HGn hgi
  go_wp2_with fail
  refine (live7_any _).mono ?_
  rintro e wl ⟨rfl, hgl⟩
  have HQqn := hide ((HQq.out.gb hgl (Nat.le_refl _)).up hgl.size)
  clear HQq
  have HQq := hide HQqn.out
  clear HQqn
  have HBqn := hide (blk_keep HBq.out hgl (by simp))
  clear HBq
  have HBq := hide HBqn.out
  clear HBqn
  have HGn := hide (gb_trans HG0.out hgl (.inl rfl))
  clear HG0
  have HG0 := hide HGn.out
  clear HGn hgl
  go_wp2_with fail
  refine bodyPost_ret (v := .bool true) (by simp [results, Tryz.results4, go_sem]) rfl ⟨rfl, HG0.out⟩
set_option maxHeartbeats 8000000 in
set_option maxRecDepth 100000 in
theorem rounds_null_z (a b : Int) (ha : I64 a) (hb : I64 b) (h0 : a ≠ (-9223372036854775808)) (h1 : b ≠ (-9223372036854775808)) (h : b = 0) (w : World) : Calls Tryz.prog 4 #[.int .i64 a, .int .i64 b] w fun e w' => e = .returned (.bool true) ∧ w.grownBy w' none := by
  have ia := ia_one ha
  have ib := ia_one hb
  have ev : doI (strictF quoF) (Vl.mk (-2) [a] [] []) (Vl.mk (-2) [b] [] []) = .ok (-2, [(-9223372036854775808)]) := doI_one _ _ _ _ (by unfold strictF; rw [if_neg (by rintro (x | x); exact h0 x; exact h1 x)]; unfold quoF quoI; rw [if_pos h])
  have e1 := int_beq_f h0
  have e2 := int_beq_f h1
  have e3 : (b == 0) = true := by simp [h]
  clear h0 h1 h
  have HG0 := hide (gb_refl w none)
  clear ha hb
  go_enter Tryz.func4, Tryz.ntmps4
  go_wp2_with fail
  refine (atom_new a _).mono ?_
  rintro e w1 ⟨nA1, nc1, sA1, sc1, lA1, lc1, rfl, hv1, hg1⟩
  have HGn := hide (gb_trans HG0.out hg1 (.inl rfl))
  clear HG0
  have HG0 := hide HGn.out
  clear HGn hg1
  have HV1 := hide hv1
  clear hv1
  go_wp2_with fail
  refine (atom_new b _).mono ?_
  rintro e w2 ⟨nA2, nc2, sA2, sc2, lA2, lc2, rfl, hv2, hg2⟩
  have HV1n := hide ((HV1.out.gb hg2 (Nat.le_refl _)).up hg2.size)
  clear HV1
  have HV1 := hide HV1n.out
  clear HV1n
  have HGn := hide (gb_trans HG0.out hg2 (.inl rfl))
  clear HG0
  have HG0 := hide HGn.out
  clear HGn hg2
  have HV2 := hide hv2
  clear hv2
  go_wp2_with fail
  have CD := do_divide (Vl.mk (-2) [a] [] []) (Vl.mk (-2) [b] [] []) _ _ nA1 nc1 sA1 sc1 lA1 lc1 nA2 nc2 sA2 sc2 lA2 lc2 ia ib (Nat.le_refl _) HV1.out HV2.out
  rw [ev] at CD
  refine CD.mono ?_
  clear CD
  clear HV1
  clear HV2
  intro e w3 hd
  obtain ⟨Aq, cq, rfl, hv, hg3⟩ := DoR.lit 1 rfl hd
  clear hd
  have HGn := hide (gb_trans HG0.out hg3 (.inl rfl))
  clear HG0
  have HG0 := hide HGn.out
  clear HGn hg3
  have HQq := hide hv
  clear hv
  go_wp2_with fail
  obtain ⟨w4, hw4⟩ : ∃ w4, w4 = w3.alloc (.cells #[.int .i64 (-2), .slice Aq 1 cq, .slice none 0 0, .slice none 0 0] 26) := ⟨_, rfl⟩
  have hg4 : w3.grownBy w4 none := by rw [hw4]; exact gb_alloc (gb_refl w3 none) _
  have HBq := hide (show w4.heap[w3.heap.size]? = some (.cells #[.int .i64 (-2), .slice Aq 1 cq, .slice none 0 0, .slice none 0 0] 26 (0, 0)) by rw [hw4]; exact heap_alloc_new w3 _)
  have HQqn := hide ((HQq.out.gb hg4 (Nat.le_refl _)).up hg4.size)
  clear HQq
  have HQq := hide HQqn.out
  clear HQqn
  have HGn := hide (gb_trans HG0.out hg4 (.inl rfl))
  clear HG0
  have HG0 := hide HGn.out
  clear HGn hg4
  rw [← hw4]
  clear hw4
  have cq0 : w4.cell? ⟨w3.heap.size, 0, none⟩ = some (.int .i64 (-2)) := by rw [blk_cell HBq.out]; rfl
  have cq1 : w4.cell? ⟨w3.heap.size, 1, none⟩ = some (.slice Aq 1 cq) := by rw [blk_cell HBq.out]; rfl
  have cq2 : w4.cell? ⟨w3.heap.size, 2, none⟩ = some (.slice none 0 0) := by rw [blk_cell HBq.out]; rfl
  have cq3 : w4.cell? ⟨w3.heap.size, 3, none⟩ = some (.slice none 0 0) := by rw [blk_cell HBq.out]; rfl
  refine (num7_any _ _).mono ?_
  rintro e wn ⟨rfl, rfl⟩
  go_wp2_with fail
  refine (rNullI_any (-9223372036854775808) _ Aq cq none 0 none 0 HQq.out).mono ?_
  rintro e wi ⟨rfl, hgi⟩
  have HQqn := hide ((HQq.out.gb hgi (Nat.le_refl _)).up hgi.size)
  clear HQq
  have HQq := hide HQqn.out
  clear HQqn
  have HBqn := hide (blk_keep HBq.out hgi (by simp))
  clear HBq
  have HBq := hide HBqn.out
  clear HBqn
  have HGn := hide (gb_trans HG0.out hgi (.inl rfl))
  clear HG0
  have HG0 := hide HGn.out
  clear HGn hgi
  go_wp2_with fail
  refine (live7_any _).mono ?_
  rintro e wl ⟨rfl, hgl⟩
  have HQqn := hide ((HQq.out.gb hgl (Nat.le_refl _)).up hgl.size)
  clear HQq
  have HQq := hide HQqn.out
  clear HQqn
  have HBqn := hide (blk_keep HBq.out hgl (by simp))
  clear HBq
  have HBq := hide HBqn.out
  clear HBqn
  have HGn := hide (gb_trans HG0.out hgl (.inl rfl))
  clear HG0
  have HG0 := hide HGn.out
  clear HGn hgl
  go_wp2_with fail
  refine bodyPost_ret (v := .bool true) (by simp [results, Tryz.results4, go_sem]) rfl ⟨rfl, HG0.out⟩
set_option maxHeartbeats 8000000 in
set_option maxRecDepth 100000 in
theorem rounds_num (a b : Int) (ha : I64 a) (hb : I64 b) (h0 : a ≠ (-9223372036854775808)) (h1 : b ≠ (-9223372036854775808)) (h2 : b ≠ 0) (w : World) : Calls Tryz.prog 4 #[.int .i64 a, .int .i64 b] w fun e w' => e = .returned (.bool true) ∧ w.grownBy w' none := by
  have ia := ia_one ha
  have ib := ia_one hb
  have hs : ¬ (a = (-9223372036854775808) ∨ b = (-9223372036854775808)) := by rintro (x | x); exact h0 x; exact h1 x
  have ev : doI (strictF quoF) (Vl.mk (-2) [a] [] []) (Vl.mk (-2) [b] [] []) = .ok (-2, [flq a b]) := doI_one _ _ _ _ (by unfold strictF; rw [if_neg hs]; unfold quoF quoI; rw [if_neg h2])
  have ew : doI (strictF remF) (Vl.mk (-2) [a] [] []) (Vl.mk (-2) [b] [] []) = .ok (-2, [rmq a b]) := doI_one _ _ _ _ (by unfold strictF; rw [if_neg hs]; unfold remF remI; rw [if_neg h2])
  obtain ⟨hq, hr⟩ := flq_rmq a b h2
  have hw1 := wrap_back _ _ _ hq ha
  have e1 := int_beq_f h0
  have e2 := int_beq_f h1
  have e3 := int_beq_f h2
  obtain ⟨fq, hfq⟩ : ∃ fq, fq = flq a b := ⟨_, rfl⟩
  obtain ⟨fr, hfr⟩ : ∃ fr, fr = rmq a b := ⟨_, rfl⟩
  rw [← hfq] at ev hw1
  rw [← hfr] at ew hw1 hr
  have HG0 := hide (gb_refl w none)
  have HR := hide hr
  clear ha hb hs h0 h1 h2 hq hfq hfr hr
  obtain ⟨m1, hm0⟩ : ∃ m1, m1 = IntKind.i64.wrap (fq * b) := ⟨_, rfl⟩
  rw [← hm0] at hw1
  have HM1 := hide hm0.symm
  have HW1 := hide hw1
  clear hm0 hw1
  go_enter Tryz.func4, Tryz.ntmps4
  go_wp2_with fail
  refine (atom_new a _).mono ?_
  rintro e w1 ⟨nA1, nc1, sA1, sc1, lA1, lc1, rfl, hv1, hg1⟩
  have HGn := hide (gb_trans HG0.out hg1 (.inl rfl))
  clear HG0
  have HG0 := hide HGn.out
  clear HGn hg1
  have HV1 := hide hv1
  clear hv1
  go_wp2_with fail
  refine (atom_new b _).mono ?_
  rintro e w2 ⟨nA2, nc2, sA2, sc2, lA2, lc2, rfl, hv2, hg2⟩
  have HV1n := hide ((HV1.out.gb hg2 (Nat.le_refl _)).up hg2.size)
  clear HV1
  have HV1 := hide HV1n.out
  clear HV1n
  have HGn := hide (gb_trans HG0.out hg2 (.inl rfl))
  clear HG0
  have HG0 := hide HGn.out
  clear HGn hg2
  have HV2 := hide hv2
  clear hv2
  go_wp2_with fail
  have CD := do_divide (Vl.mk (-2) [a] [] []) (Vl.mk (-2) [b] [] []) _ _ nA1 nc1 sA1 sc1 lA1 lc1 nA2 nc2 sA2 sc2 lA2 lc2 ia ib (Nat.le_refl _) HV1.out HV2.out
  rw [ev] at CD
  refine CD.mono ?_
  clear CD
  clear HV1
  clear HV2
  intro e w3 hd
  obtain ⟨Aq, cq, rfl, hv, hg3⟩ := DoR.lit 1 rfl hd
  clear hd
  have HGn := hide (gb_trans HG0.out hg3 (.inl rfl))
  clear HG0
  have HG0 := hide HGn.out
  clear HGn hg3
  have HQq := hide hv
  clear hv
  go_wp2_with fail
  obtain ⟨w4, hw4⟩ : ∃ w4, w4 = w3.alloc (.cells #[.int .i64 (-2), .slice Aq 1 cq, .slice none 0 0, .slice none 0 0] 26) := ⟨_, rfl⟩
  have hg4 : w3.grownBy w4 none := by rw [hw4]; exact gb_alloc (gb_refl w3 none) _
  have HBq := hide (show w4.heap[w3.heap.size]? = some (.cells #[.int .i64 (-2), .slice Aq 1 cq, .slice none 0 0, .slice none 0 0] 26 (0, 0)) by rw [hw4]; exact heap_alloc_new w3 _)
  have HQqn := hide ((HQq.out.gb hg4 (Nat.le_refl _)).up hg4.size)
  clear HQq
  have HQq := hide HQqn.out
  clear HQqn
  have HGn := hide (gb_trans HG0.out hg4 (.inl rfl))
  clear HG0
  have HG0 := hide HGn.out
  clear HGn hg4
  rw [← hw4]
  clear hw4
  refine (atom_new a _).mono ?_
  rintro e w5 ⟨nA5, nc5, sA5, sc5, lA5, lc5, rfl, hv5, hg5⟩
  have HQqn := hide ((HQq.out.gb hg5 (Nat.le_refl _)).up hg5.size)
  clear HQq
  have HQq := hide HQqn.out
  clear HQqn
  have HBqn := hide (blk_keep HBq.out hg5 (by simp))
  clear HBq
  have HBq := hide HBqn.out
  clear HBqn
  have HGn := hide (gb_trans HG0.out hg5 (.inl rfl))
  clear HG0
  have HG0 := hide HGn.out
  clear HGn hg5
  have HV5 := hide hv5
  clear hv5
  go_wp2_with fail
  refine (atom_new b _).mono ?_
  rintro e w6 ⟨nA6, nc6, sA6, sc6, lA6, lc6, rfl, hv6, hg6⟩
  have HQqn := hide ((HQq.out.gb hg6 (Nat.le_refl _)).up hg6.size)
  clear HQq
  have HQq := hide HQqn.out
  clear HQqn
  have HBqn := hide (blk_keep HBq.out hg6 (by simp))
  clear HBq
  have HBq := hide HBqn.out
  clear HBqn
  have HV5n := hide ((HV5.out.gb hg6 (Nat.le_refl _)).up hg6.size)
  clear HV5
  have HV5 := hide HV5n.out
  clear HV5n
  have HGn := hide (gb_trans HG0.out hg6 (.inl rfl))
  clear HG0
  have HG0 := hide HGn.out
  clear HGn hg6
  have HV6 := hide hv6
  clear hv6
  go_wp2_with fail
  have CD := do_modulo (Vl.mk (-2) [a] [] []) (Vl.mk (-2) [b] [] []) _ _ nA5 nc5 sA5 sc5 lA5 lc5 nA6 nc6 sA6 sc6 lA6 lc6 ia ib (Nat.le_refl _) HV5.out HV6.out
  rw [ew] at CD
  refine CD.mono ?_
  clear CD
  clear HV5
  clear HV6
  intro e w7 hd
  obtain ⟨Ar, cr, rfl, hv, hg7⟩ := DoR.lit 1 rfl hd
  clear hd
  have HQqn := hide ((HQq.out.gb hg7 (Nat.le_refl _)).up hg7.size)
  clear HQq
  have HQq := hide HQqn.out
  clear HQqn
  have HBqn := hide (blk_keep HBq.out hg7 (by simp))
  clear HBq
  have HBq := hide HBqn.out
  clear HBqn
  have HGn := hide (gb_trans HG0.out hg7 (.inl rfl))
  clear HG0
  have HG0 := hide HGn.out
  clear HGn hg7
  have HQr := hide hv
  clear hv
  go_wp2_with fail
  obtain ⟨w8, hw8⟩ : ∃ w8, w8 = w7.alloc (.cells #[.int .i64 (-2), .slice Ar 1 cr, .slice none 0 0, .slice none 0 0] 26) := ⟨_, rfl⟩
  have hg8 : w7.grownBy w8 none := by rw [hw8]; exact gb_alloc (gb_refl w7 none) _
  have HBr := hide (show w8.heap[w7.heap.size]? = some (.cells #[.int .i64 (-2), .slice Ar 1 cr, .slice none 0 0, .slice none 0 0] 26 (0, 0)) by rw [hw8]; exact heap_alloc_new w7 _)
  have HQqn := hide ((HQq.out.gb hg8 (Nat.le_refl _)).up hg8.size)
  clear HQq
  have HQq := hide HQqn.out
  clear HQqn
  have HBqn := hide (blk_keep HBq.out hg8 (by simp))
  clear HBq
  have HBq := hide HBqn.out
  clear HBqn
  have HQrn := hide ((HQr.out.gb hg8 (Nat.le_refl _)).up hg8.size)
  clear HQr
  have HQr := hide HQrn.out
  clear HQrn
  have HGn := hide (gb_trans HG0.out hg8 (.inl rfl))
  clear HG0
  have HG0 := hide HGn.out
  clear HGn hg8
  rw [← hw8]
  clear hw8
  obtain ⟨adq, rfl, _, hcq⟩ := HQq.out.n.i64 (k := 0) (by show 0 < 1; decide)
  have hcq : w8.cell? (adq.add 0) = some (.int .i64 fq) := hcq
  rw [Addr.add_zero'] at hcq
  have HCq := hide hcq
  have cq0 : w8.cell? ⟨w3.heap.size, 0, none⟩ = some (.int .i64 (-2)) := by rw [blk_cell HBq.out]; rfl
  have cq1 : w8.cell? ⟨w3.heap.size, 1, none⟩ = some (.slice (some adq) 1 cq) := by rw [blk_cell HBq.out]; rfl
  have cq2 : w8.cell? ⟨w3.heap.size, 2, none⟩ = some (.slice none 0 0) := by rw [blk_cell HBq.out]; rfl
  have cq3 : w8.cell? ⟨w3.heap.size, 3, none⟩ = some (.slice none 0 0) := by rw [blk_cell HBq.out]; rfl
  obtain ⟨adr, rfl, _, hcr⟩ := HQr.out.n.i64 (k := 0) (by show 0 < 1; decide)
  have hcr : w8.cell? (adr.add 0) = some (.int .i64 fr) := hcr
  rw [Addr.add_zero'] at hcr
  have HCr := hide hcr
  have cr0 : w8.cell? ⟨w7.heap.size, 0, none⟩ = some (.int .i64 (-2)) := by rw [blk_cell HBr.out]; rfl
  have cr1 : w8.cell? ⟨w7.heap.size, 1, none⟩ = some (.slice (some adr) 1 cr) := by rw [blk_cell HBr.out]; rfl
  have cr2 : w8.cell? ⟨w7.heap.size, 2, none⟩ = some (.slice none 0 0) := by rw [blk_cell HBr.out]; rfl
  have cr3 : w8.cell? ⟨w7.heap.size, 3, none⟩ = some (.slice none 0 0) := by rw [blk_cell HBr.out]; rfl
  clear HQq HQr HBq HBr ev ew ia ib
  have hm1 := HM1.out
  have hw1 := HW1.out
  rcases HR.out with ⟨k1, k2, k3⟩ | ⟨k1, k2, k3⟩
  · have d1 : decide (0 < b) = true := decide_eq_true k1
    clear HR
    go_wp2_with (first | (go_at_call 13; refine (num7_any _ _).mono ?_; rintro e wn ⟨rfl, rfl⟩) | (go_at_call 7; refine (live7_any _).mono ?_; rintro e wl ⟨rfl, hgl⟩; have HGL := hide (gb_trans HG0.out hgl (.inl rfl)); clear hgl))
    exact bodyPost_ret (v := .bool true) (by simp [results, Tryz.results4, go_sem]) rfl ⟨rfl, HGL.out⟩
  · have d1 : decide (0 < b) = false := decide_eq_false (by omega)
    have d2 : ¬ (0 : Int) < b := by omega
    clear HR
    go_wp2_with (first | (go_at_call 13; refine (num7_any _ _).mono ?_; rintro e wn ⟨rfl, rfl⟩) | (go_at_call 7; refine (live7_any _).mono ?_; rintro e wl ⟨rfl, hgl⟩; have HGL := hide (gb_trans HG0.out hgl (.inl rfl)); clear hgl))
    exact bodyPost_ret (v := .bool true) (by simp [results, Tryz.results4, go_sem]) rfl ⟨rfl, HGL.out⟩
theorem rounds_any (a b : Int) (ha : I64 a) (hb : I64 b) (w : World) : Calls Tryz.prog 4 #[.int .i64 a, .int .i64 b] w fun e w' => e = .returned (.bool true) ∧ w.grownBy w' none := by
  by_cases h0 : a = (-9223372036854775808)
  · exact rounds_null_a a b ha hb h0 w
  by_cases h1 : b = (-9223372036854775808)
  · exact rounds_null_b a b ha hb h0 h1 w
  by_cases h2 : b = 0
  · exact rounds_null_z a b ha hb h0 h1 h2 w
  · exact rounds_num a b ha hb h0 h1 h2 w
end Go.Proofs.YtnilcnobngcbgaaGreat
