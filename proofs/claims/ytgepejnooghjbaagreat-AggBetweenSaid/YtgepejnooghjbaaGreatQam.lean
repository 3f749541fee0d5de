/-
  agg's sumOf, walked.
-/
import Derived.Test.YtgepejnooghjbaaGreatQak
import Derived.Test.YtgepejnooghjbaaGreatQac
import Derived.Test.YtgepejnooghjbaaGreatQal

namespace Go.Proofs.YtgepejnooghjbaaGreat
open Go.RowKit
attribute [local go_sem ↓] Go.wp_at_zero Go.wp_at_succ

/-- An element, in its vector's memory. -/
def ElF (x : Int) : Fct := fun v w => ∃ b o c, v = .agg #[.int .i64 (-2), .slice (some ⟨b, o, none⟩) 1 c, .slice none 0 0, .slice none 0 0] ∧ 1 ≤ c ∧ w.cell? ⟨b, o, none⟩ = some (.int .i64 x)
theorem ElF.up (x : Int) : (ElF x).Up := by
  rintro v w w' ⟨b, o, c, h1, h2, h3⟩ hg
  exact ⟨b, o, c, h1, h2, cell_gb h3 hg⟩
theorem rd_el {w : World} {b o : Nat} {x : Int} (h : w.cell? ⟨b, o, none⟩ = some (.int .i64 x)) : Rd w w.heap.size (some ⟨b, o, none⟩) (i64s [x]) := fun _ => by
  refine ⟨_, rfl, World.block_lt_of_cell? w _ h, fun k v hv => ?_⟩
  cases k with
  | zero =>
    have e : (⟨b, o, none⟩ : Addr).add 0 = ⟨b, o, none⟩ := by unfold Addr.add; split <;> simp_all
    rw [e, h]
    exact hv
  | succ k => simp [i64s] at hv
theorem getD_lt8 {l : List Int} {i : Nat} (h : i < l.length) : l.getD i 0 = l[i] := by
  rw [List.getD_eq_getElem?_getD, List.getElem?_eq_getElem h]
  rfl
theorem el_vb {w : World} {b o c : Nat} {x : Int} (h : w.cell? ⟨b, o, none⟩ = some (.int .i64 x)) (hc : 1 ≤ c) : VB w w.heap.size (.mk (-2) [x] [] []) (some ⟨b, o, none⟩) c none 0 none 0 :=
  ⟨rd_el h, Rd.nil_, ⟨[], Rd.nil_, rfl⟩, hc, Nat.le_refl _, Nat.le_refl _⟩
set_option maxHeartbeats 4000000 in
set_option maxRecDepth 100000 in
theorem element_int (n k b o nc : Nat) (x : Int) (hn : n ≤ 1000000) (hk : k < nc) (hkn : k < n) (w : World) (sA : Option Addr) (sc : Nat) (lA : Option Addr) (lc : Nat) (hc : w.cell? ⟨b, o + k, none⟩ = some (.int .i64 x)) :
    Calls Tryz.prog 37 #[.agg #[.int .i64 2, .slice (some ⟨b, o, none⟩) n nc, .slice sA 0 sc, .slice lA 0 lc], .int .i64 (k : Int)] w fun e w' => (∃ v, e = .returned v ∧ ElF x v w') ∧ w.grownBy w' none := by
  obtain ⟨wa, hwa⟩ : ∃ wa, wa = (w.alloc (.cells #[.int .i64 2, .slice (some ⟨b, o, none⟩) n nc, .slice sA 0 sc, .slice lA 0 lc] 26)).alloc (.cells #[.int .i64 0, .slice none 0 0, .slice none 0 0, .slice none 0 0] 26) := ⟨_, rfl⟩
  have ha : wa.heap[w.heap.size]? = some (.cells #[.int .i64 2, .slice (some ⟨b, o, none⟩) n nc, .slice sA 0 sc, .slice lA 0 lc] 26 (0, 0)) := by rw [hwa]; exact (Below.heap_alloc _ _ _ (by rw [World.size_alloc]; omega)).trans (heap_alloc_new w _)
  have hz : wa.heap[w.heap.size + 1]? = some (.cells #[.int .i64 0, .slice none 0 0, .slice none 0 0, .slice none 0 0] 26 (0, 0)) := by rw [hwa]; have := heap_alloc_new (w.alloc (.cells #[.int .i64 2, .slice (some ⟨b, o, none⟩) n nc, .slice sA 0 sc, .slice lA 0 lc] 26)) (.cells #[.int .i64 0, .slice none 0 0, .slice none 0 0, .slice none 0 0] 26); rwa [World.size_alloc] at this
  have HBA := hide ha
  have HBZ := hide hz
  have HSZ := hide (show wa.heap.size = w.heap.size + 2 by rw [hwa]; simp)
  have hga : w.grownBy wa none := by rw [hwa]; exact gb_alloc (gb_alloc (gb_refl w none) _) _
  have HG := hide hga
  have HWE := hide hwa
  have HQ1 := hide (show (0 : Int) ≤ (k : Int) + 1 ∧ (k : Int) + 1 ≤ (nc : Int) by omega)
  have HQ2 := hide (show ¬ nc = k by omega)
  have HWC := hide hc
  have h6 : IntKind.i64.wrap ((k : Int) + 1) = ((k + 1 : Nat) : Int) := by rw [IntKind.wrap_i64]; omega
  have HKC := hide (show 1 ≤ nc - k by omega)
  have a0 : wa.cell? ⟨w.heap.size, 0, none⟩ = some (.int .i64 2) := by rw [blk_cell ha]; rfl
  have a1 : wa.cell? ⟨w.heap.size, 1, none⟩ = some (.slice (some ⟨b, o, none⟩) n nc) := by rw [blk_cell ha]; rfl
  have a2 : wa.cell? ⟨w.heap.size, 2, none⟩ = some (.slice sA 0 sc) := by rw [blk_cell ha]; rfl
  have a3 : wa.cell? ⟨w.heap.size, 3, none⟩ = some (.slice lA 0 lc) := by rw [blk_cell ha]; rfl
  clear ha hz hwa hga hn hk hkn hc
  go_enter Tryz.func37, Tryz.ntmps37
  go_upto_region 1 with fail
  rw [← HWE.out]
  go_upto_region 6 with fail
  refine wp_region_facts' 10 (by kernel_rfl) (by kernel_rfl) ?_
  intro A O W L HA HO HW HL
  simp only [List.take_succ_cons, List.take_zero]
  have HS := hide (show A.tmps.size = 36 by rw [HA.out]; rfl)
  have HGW := hide (show wa.grownBy W none by rw [HW.out]; exact gb_drew (gb_refl wa none))
  have A1 := hide (show A.eval (.tmp 1) = .int .i64 (k : Int) by rw [HA.out]; rfl)
  have A2 := hide (show A.eval (.tmp 2) = .pointer (some ⟨w.heap.size, 0, none⟩) by rw [HA.out]; rfl)
  -- slot 26
  refine wpFacts_lit (.pointer (some ⟨w.heap.size, 0, none⟩)) rfl ?_ ?_
  · intro a wq hw hl
    have e2 : a.tmps[2]?.getD undef = .pointer (some ⟨w.heap.size, 0, none⟩) := (hl 2 (by first | (simp [Op.operands]; done) | simp [Op.operands, Call.operands]) (by rw [HS.out]; decide)).trans A2.out
    clear hl
    go_simp
  -- slot 27
  refine wpFacts_lit (.int .i64 2) rfl ?_ ?_
  · intro a wq hw hl
    have e26 : a.tmps[26]?.getD undef = .pointer (some ⟨w.heap.size, 0, none⟩) := hl 26 (by first | (simp [Op.operands]; done) | simp [Op.operands, Call.operands]) (by rw [HS.out]; decide)
    have hbA := blk_keep HBA.out (gb_trans HGW.out hw (.inl rfl)) (by simp)
    have c0 : wq.cell? ⟨w.heap.size, 0, none⟩ = some (.int .i64 2) := by rw [blk_cell hbA]; rfl
    clear hbA
    clear hl
    go_simp
  -- slot 28
  refine wpFacts_lit (.int .i64 (-2)) rfl ?_ ?_
  · intro a wq hw hl
    have e27 : a.tmps[27]?.getD undef = .int .i64 2 := hl 27 (by first | (simp [Op.operands]; done) | simp [Op.operands, Call.operands]) (by rw [HS.out]; decide)
    clear hl
    go_simp
    rfl
  -- slot 29
  refine wpFacts_lit (.pointer (some ⟨w.heap.size, 1, none⟩)) rfl ?_ ?_
  · intro a wq hw hl
    have e2 : a.tmps[2]?.getD undef = .pointer (some ⟨w.heap.size, 0, none⟩) := (hl 2 (by first | (simp [Op.operands]; done) | simp [Op.operands, Call.operands]) (by rw [HS.out]; decide)).trans A2.out
    clear hl
    go_simp
  -- slot 30
  refine wpFacts_lit (.slice (some ⟨b, o, none⟩) n nc) rfl ?_ ?_
  · intro a wq hw hl
    have e29 : a.tmps[29]?.getD undef = .pointer (some ⟨w.heap.size, 1, none⟩) := hl 29 (by first | (simp [Op.operands]; done) | simp [Op.operands, Call.operands]) (by rw [HS.out]; decide)
    have hbA := blk_keep HBA.out (gb_trans HGW.out hw (.inl rfl)) (by simp)
    have c0 : wq.cell? ⟨w.heap.size, 1, none⟩ = some (.slice (some ⟨b, o, none⟩) n nc) := by rw [blk_cell hbA]; rfl
    clear hbA
    clear hl
    go_simp
  -- slot 31
  refine wpFacts_lit (.int .i64 (k : Int)) rfl ?_ ?_
  · intro a wq hw hl
    have e1 : a.tmps[1]?.getD undef = .int .i64 (k : Int) := (hl 1 (by first | (simp [Op.operands]; done) | simp [Op.operands, Call.operands]) (by rw [HS.out]; decide)).trans A1.out
    clear hl
    go_simp
  -- slot 32
  refine wpFacts_lit (.int .i64 (k : Int)) rfl ?_ ?_
  · intro a wq hw hl
    have e1 : a.tmps[1]?.getD undef = .int .i64 (k : Int) := (hl 1 (by first | (simp [Op.operands]; done) | simp [Op.operands, Call.operands]) (by rw [HS.out]; decide)).trans A1.out
    clear hl
    go_simp
  -- slot 33
  refine wpFacts_lit (.int .i64 ((k + 1 : Nat) : Int)) rfl ?_ ?_
  · intro a wq hw hl
    have e32 : a.tmps[32]?.getD undef = .int .i64 (k : Int) := hl 32 (by first | (simp [Op.operands]; done) | simp [Op.operands, Call.operands]) (by rw [HS.out]; decide)
    clear hl
    go_simp
  -- slot 34
  refine wpFacts_lit (.slice (some ⟨b, o + k, none⟩) 1 (nc - k)) rfl ?_ ?_
  · intro a wq hw hl
    have e30 : a.tmps[30]?.getD undef = .slice (some ⟨b, o, none⟩) n nc := hl 30 (by first | (simp [Op.operands]; done) | simp [Op.operands, Call.operands]) (by rw [HS.out]; decide)
    have e31 : a.tmps[31]?.getD undef = .int .i64 (k : Int) := hl 31 (by first | (simp [Op.operands]; done) | simp [Op.operands, Call.operands]) (by rw [HS.out]; decide)
    have e33 : a.tmps[33]?.getD undef = .int .i64 ((k + 1 : Nat) : Int) := hl 33 (by first | (simp [Op.operands]; done) | simp [Op.operands, Call.operands]) (by rw [HS.out]; decide)
    have q1 := HQ1.out
    have q2 := HQ2.out
    clear hl
    go_simp
  -- slot 35
  refine wpFacts_lit (.agg #[.int .i64 (-2), .slice (some ⟨b, o + k, none⟩) 1 (nc - k), .slice none 0 0, .slice none 0 0]) rfl ?_ ?_
  · intro a wq hw hl
    have e28 : a.tmps[28]?.getD undef = .int .i64 (-2) := hl 28 (by first | (simp [Op.operands]; done) | simp [Op.operands, Call.operands]) (by rw [HS.out]; decide)
    have e34 : a.tmps[34]?.getD undef = .slice (some ⟨b, o + k, none⟩) 1 (nc - k) := hl 34 (by first | (simp [Op.operands]; done) | simp [Op.operands, Call.operands]) (by rw [HS.out]; decide)
    clear hl
    go_simp
  refine HL.out _ (fun a' wz hc => ?_)
  have e35 : a'.eval (.tmp 35) = .agg #[.int .i64 (-2), .slice (some ⟨b, o + k, none⟩) 1 (nc - k), .slice none 0 0, .slice none 0 0] := hc.fact 35 (by rw [HS.out]; decide)
  have hgwz := gb_trans HGW.out hc.grown (.inl rfl)
  have hfr := hc.frame [26, 27, 28, 29, 30, 31, 32, 33, 34, 35] (by rw [HO.out]; kernel_rfl)
  rw [hfr]
  clear hfr hc
  rw [HA.out]
  clear HA HO HL HW HS HGW A1 A2
  clear A O W L
  simp only [List.drop_succ_cons, List.drop_zero, List.foldl_cons, List.foldl_nil, Act.put, List.setIfInBounds_toArray, List.set_cons_succ, List.set_cons_zero]
  rw [e35]
  generalize a'.eval (.tmp 26) = x26
  generalize a'.eval (.tmp 27) = x27
  generalize a'.eval (.tmp 28) = x28
  generalize a'.eval (.tmp 29) = x29
  generalize a'.eval (.tmp 30) = x30
  generalize a'.eval (.tmp 31) = x31
  generalize a'.eval (.tmp 32) = x32
  generalize a'.eval (.tmp 33) = x33
  generalize a'.eval (.tmp 34) = x34
  clear e35
  clear a'
  have HGZ := hide hgwz
  have hrr := blk_keep HBZ.out HGZ.out (by simp)
  have HRR := hide hrr
  have z0 := blk_frozen hrr 0
  have z1 := blk_frozen hrr 1
  have z2 := blk_frozen hrr 2
  have z3 := blk_frozen hrr 3
  have y0 : wz.cell? ⟨w.heap.size + 1, 0, none⟩ = some (.int .i64 0) := (by { rw [blk_cell hrr]; rfl })
  have y1 : wz.cell? ⟨w.heap.size + 1, 1, none⟩ = some (.slice none 0 0) := (by { rw [blk_cell hrr]; rfl })
  have y2 : wz.cell? ⟨w.heap.size + 1, 2, none⟩ = some (.slice none 0 0) := (by { rw [blk_cell hrr]; rfl })
  have y3 : wz.cell? ⟨w.heap.size + 1, 3, none⟩ = some (.slice none 0 0) := (by { rw [blk_cell hrr]; rfl })
  clear hrr
  clear hgwz a0 a1 a2 a3
  go_wp2_with fail
  obtain ⟨m0, m1, m2, m3⟩ := C4.put HRR.out (.int .i64 (-2)) (.slice (some ⟨b, o + k, none⟩) 1 (nc - k)) (.slice none 0 0) (.slice none 0 0)
  simp only [put4, Nat.zero_add] at m0 m1 m2 m3
  refine bodyPost_ret (v := .agg #[.int .i64 (-2), .slice (some ⟨b, o + k, none⟩) 1 (nc - k), .slice none 0 0, .slice none 0 0]) (by simp [results, Tryz.results37, go_sem, m0, m1, m2, m3]) rfl ?_
  have hg := put_four_gb (gb_trans HG.out HGZ.out (.inl rfl)) (Nat.le_succ w.heap.size) (.int .i64 (-2)) (.slice (some ⟨b, o + k, none⟩) 1 (nc - k)) (.slice none 0 0) (.slice none 0 0)
  exact ⟨⟨_, rfl, b, o + k, nc - k, rfl, HKC.out, cell_gb HWC.out hg⟩, hg⟩
set_option maxHeartbeats 4000000 in
set_option maxRecDepth 100000 in
theorem find_int (l : List Int) (x : Int) (hl : l.length ≤ 400000) (w : World) (B : Nat) (nA : Option Addr) (nc : Nat) (sA : Option Addr) (sc : Nat) (lA : Option Addr) (lc : Nat) (xA : Option Addr) (xc : Nat) (yA : Option Addr) (yc : Nat) (zA : Option Addr) (zc : Nat) (hB : B ≤ w.heap.size) (h : VB w B (.mk 2 l [] []) nA nc sA sc lA lc) (hx : VB w B (.mk (-2) [x] [] []) xA xc yA yc zA zc) :
    Calls Tryz.prog 16 #[.agg #[.int .i64 2, .slice nA l.length nc, .slice sA 0 sc, .slice lA 0 lc], .agg #[.int .i64 (-2), .slice xA 1 xc, .slice yA 0 yc, .slice zA 0 zc]] w fun e w' => ∃ k : Nat, e = .returned (.tuple #[.int .i64 (k : Int), .int .i64 0]) ∧ (x ∈ l → k < l.length) ∧ w.grownBy w' none := by
  obtain ⟨wa, hwa⟩ : ∃ wa, wa = (w.alloc (.cells #[.int .i64 2, .slice nA l.length nc, .slice sA 0 sc, .slice lA 0 lc] 26)).alloc (.cells #[.int .i64 (-2), .slice xA 1 xc, .slice yA 0 yc, .slice zA 0 zc] 26) := ⟨_, rfl⟩
  have ha : wa.heap[w.heap.size]? = some (.cells #[.int .i64 2, .slice nA l.length nc, .slice sA 0 sc, .slice lA 0 lc] 26 (0, 0)) := by rw [hwa]; exact (Below.heap_alloc _ _ _ (by rw [World.size_alloc]; omega)).trans (heap_alloc_new w _)
  have hz : wa.heap[w.heap.size + 1]? = some (.cells #[.int .i64 (-2), .slice xA 1 xc, .slice yA 0 yc, .slice zA 0 zc] 26 (0, 0)) := by rw [hwa]; have := heap_alloc_new (w.alloc (.cells #[.int .i64 2, .slice nA l.length nc, .slice sA 0 sc, .slice lA 0 lc] 26)) (.cells #[.int .i64 (-2), .slice xA 1 xc, .slice yA 0 yc, .slice zA 0 zc] 26); rwa [World.size_alloc] at this
  have HBV := hide ha
  have HBX := hide hz
  have hga : w.grownBy wa none := by rw [hwa]; exact gb_alloc (gb_alloc (gb_refl w none) _) _
  have HGA := hide hga
  have HWE := hide hwa
  have ht : (Vl.mk 2 l [] []).tot ≤ 1100000 := by rw [Vl.tot_def]; show 1 + l.length + 0 + 0 + 0 ≤ 1100000; omega
  have HCN : Hid (∀ w2, w.grownBy w2 none → Calls Tryz.prog 35 #[.agg #[.int .i64 2, .slice nA l.length nc, .slice sA 0 sc, .slice lA 0 lc]] w2 fun e w' => e = .returned (.int .i64 (l.length : Nat)) ∧ w2.grownBy w' none) := hide (fun w2 hg => count_d (Vl.mk 2 l [] []).depth (Vl.mk 2 l [] []) w2 B nA nc sA sc lA lc (Nat.le_refl _) ht (Nat.le_trans hB hg.size) (h.gb hg hB))
  have HIS := hide (fun w2 => isSeq_int nA l.length nc sA sc lA lc w2)
  have HMA : Hid (∀ (p : Int) (w2 : World), w.grownBy w2 none → ∀ (b o c : Nat), 1 ≤ c → w2.cell? ⟨b, o, none⟩ = some (.int .i64 p) → Calls Tryz.prog 36 #[.agg #[.int .i64 (-2), .slice (some ⟨b, o, none⟩) 1 c, .slice none 0 0, .slice none 0 0], .agg #[.int .i64 (-2), .slice xA 1 xc, .slice yA 0 yc, .slice zA 0 zc]] w2 fun e w' => e = .returned (.bool (Vl.same (.mk (-2) [p] [] []) (.mk (-2) [x] [] []))) ∧ w2.grownBy w' none) := hide (fun p w2 hg b o c hc1 hcl =>
    vMatch_any (.mk (-2) [p] [] []) (.mk (-2) [x] [] []) w2 w2.heap.size (some ⟨b, o, none⟩) c none 0 none 0 xA xc yA yc zA zc (by rw [Vl.tot_def]; show 1 + 1 + 0 + 0 + 0 ≤ 1100000; decide) (by rw [Vl.tot_def]; show 1 + 1 + 0 + 0 + 0 ≤ 1100000; decide) (Nat.le_refl _) (el_vb hcl hc1) ((hx.gb hg hB).up (Nat.le_trans hB hg.size)))
  have HR := hide (vat_int h)
  have HL := hide hl
  have HNC := hide (show l.length ≤ nc from h.hn)
  have a0 : wa.cell? ⟨w.heap.size, 0, none⟩ = some (.int .i64 2) := by rw [blk_cell ha]; rfl
  have a1 : wa.cell? ⟨w.heap.size, 1, none⟩ = some (.slice nA l.length nc) := by rw [blk_cell ha]; rfl
  have a2 : wa.cell? ⟨w.heap.size, 2, none⟩ = some (.slice sA 0 sc) := by rw [blk_cell ha]; rfl
  have a3 : wa.cell? ⟨w.heap.size, 3, none⟩ = some (.slice lA 0 lc) := by rw [blk_cell ha]; rfl
  have x0 : wa.cell? ⟨(w.heap.size + 1), 0, none⟩ = some (.int .i64 (-2)) := by rw [blk_cell hz]; rfl
  have x1 : wa.cell? ⟨(w.heap.size + 1), 1, none⟩ = some (.slice xA 1 xc) := by rw [blk_cell hz]; rfl
  have x2 : wa.cell? ⟨(w.heap.size + 1), 2, none⟩ = some (.slice yA 0 yc) := by rw [blk_cell hz]; rfl
  have x3 : wa.cell? ⟨(w.heap.size + 1), 3, none⟩ = some (.slice zA 0 zc) := by rw [blk_cell hz]; rfl
  clear ha hz hwa hga h hx hB ht hl
  go_enter Tryz.func16, Tryz.ntmps16
  go_upto_region 1 with fail
  rw [← HWE.out]
  go_wp2_with (first
    | (go_at_call 23; refine (HIS.out _).mono ?_; rintro e w1 ⟨rfl, hg1⟩; have HG1 := hide hg1; clear a0 a1 a2 a3; have hb1 := blk_keep HBV.out hg1 (by simp); clear hg1; have a0 : w1.cell? ⟨w.heap.size, 0, none⟩ = some (.int .i64 2) := (by { rw [blk_cell hb1]; rfl }); have a1 : w1.cell? ⟨w.heap.size, 1, none⟩ = some (.slice nA l.length nc) := (by { rw [blk_cell hb1]; rfl }); have a2 : w1.cell? ⟨w.heap.size, 2, none⟩ = some (.slice sA 0 sc) := (by { rw [blk_cell hb1]; rfl }); have a3 : w1.cell? ⟨w.heap.size, 3, none⟩ = some (.slice lA 0 lc) := (by { rw [blk_cell hb1]; rfl }); clear hb1)
    | (go_at_call 35; refine (HCN.out _ (gb_trans HGA.out HG1.out (.inl rfl))).mono ?_; rintro e w2 ⟨rfl, hg2⟩; have HG2 := hide (gb_trans HG1.out hg2 (.inl rfl)); clear hg2 a0 a1 a2 a3 x0 x1 x2 x3))
  go_loopw [12] (fun i wr => ∃ j : Nat, i = .int .i64 (j : Int) ∧ j ≤ l.length ∧ (∀ i, i < j → l.getD i 0 ≠ x) ∧ wa.grownBy wr none) (fun i _ => l.length - (intOf i).toNat)
  case atStart => exact ⟨0, rfl, Nat.zero_le _, fun i hi => absurd hi (Nat.not_lt_zero i), HG2.out⟩
  case round =>
    obtain ⟨j, rfl, hj, hno, hgr⟩ := hrel
    have HGR := hide hgr
    have HBVr := hide (blk_keep HBV.out hgr (by simp))
    have HBXr := hide (blk_keep HBX.out hgr (by simp))
    by_cases hlt : j < l.length
    · have hlt1 : (j : Int) < (l.length : Int) := by omega
      have h6 : IntKind.i64.wrap ((j : Int) + 1) = ((j + 1 : Nat) : Int) := by rw [IntKind.wrap_i64]; have := HL.out; omega
      obtain ⟨p, hp⟩ : ∃ p, p = l.getD j 0 := ⟨_, rfl⟩
      obtain ⟨b, o, hA, hbB, hcc⟩ := HR.out.lay (by intro e; have h0 := congrArg List.length e; rw [show (i64s l).length = l.length by simp [i64s]] at h0; simp only [List.length_nil] at h0; omega)
      have hcj : w.cell? ⟨b, o + j, none⟩ = some (.int .i64 p) := hcc j _ (by unfold i64s; rw [List.getElem?_map, List.getElem?_eq_getElem hlt, hp, List.getD_eq_getElem?_getD, List.getElem?_eq_getElem hlt]; rfl)
      have HEL : Hid (∀ w2, wr.grownBy w2 none → Calls Tryz.prog 37 #[.agg #[.int .i64 2, .slice nA l.length nc, .slice sA 0 sc, .slice lA 0 lc], .int .i64 (j : Int)] w2 fun e w' => (∃ v, e = .returned v ∧ ElF p v w') ∧ w2.grownBy w' none) := hide (by
        intro w2 hg
        rw [hA]
        exact element_int l.length j b o nc p (by have := HL.out; omega) (by have := HNC.out; omega) hlt w2 sA sc lA lc (cell_gb hcj (gb_trans HGA.out (gb_trans hgr hg (.inl rfl)) (.inl rfl))))
      have HM := hide (HMA.out p)
      have HP := hide hp
      have HNO := hide hno
      have HLT := hide hlt
      clear hA hbB hcc hcj hgr hno hlt hj hp
      go_wp2_with fail
      refine wp_region_facts' 4 (by kernel_rfl) (by kernel_rfl) ?_
      intro A O W L HA HO HW HL
      simp only [List.take_succ_cons, List.take_zero]
      have HS := hide (show A.tmps.size = 24 by rw [HA.out]; rfl)
      have HGW := hide (show wr.grownBy W none by rw [HW.out]; exact gb_drew (gb_refl wr none))
      have A2 := hide (show A.eval (.tmp 2) = .pointer (some ⟨w.heap.size, 0, none⟩) by rw [HA.out]; rfl)
      have A3 := hide (show A.eval (.tmp 3) = .pointer (some ⟨(w.heap.size + 1), 0, none⟩) by rw [HA.out]; rfl)
      have A6 := hide (show A.eval (.tmp 6) = .int .i64 (j : Int) by rw [HA.out]; rfl)
      -- slot 15
      refine wpFacts_lit (.agg #[.int .i64 2, .slice nA l.length nc, .slice sA 0 sc, .slice lA 0 lc]) rfl ?_ ?_
      · intro a wq hw hl
        have e2 : a.tmps[2]?.getD undef = .pointer (some ⟨w.heap.size, 0, none⟩) := (hl 2 (by first | (simp [Op.operands]; done) | simp [Op.operands, Call.operands]) (by rw [HS.out]; decide)).trans A2.out
        have hbV := blk_keep HBVr.out (gb_trans HGW.out hw (.inl rfl)) (by simp)
        have c0 : wq.cell? ⟨w.heap.size, 0, none⟩ = some (.int .i64 2) := by rw [blk_cell hbV]; rfl
        have c1 : wq.cell? ⟨w.heap.size, 1, none⟩ = some (.slice nA l.length nc) := by rw [blk_cell hbV]; rfl
        have c2 : wq.cell? ⟨w.heap.size, 2, none⟩ = some (.slice sA 0 sc) := by rw [blk_cell hbV]; rfl
        have c3 : wq.cell? ⟨w.heap.size, 3, none⟩ = some (.slice lA 0 lc) := by rw [blk_cell hbV]; rfl
        clear hbV
        clear hl
        go_simp
      -- slot 16
      refine wpFacts_lit (.int .i64 (j : Int)) rfl ?_ ?_
      · intro a wq hw hl
        have e6 : a.tmps[6]?.getD undef = .int .i64 (j : Int) := (hl 6 (by first | (simp [Op.operands]; done) | simp [Op.operands, Call.operands]) (by rw [HS.out]; decide)).trans A6.out
        clear hl
        go_simp
      -- slot 17
      refine wpFacts_step (ElF p) rfl (ElF.up _) ?_ ?_
      · intro a wq hw hl
        have e15 : a.tmps[15]?.getD undef = .agg #[.int .i64 2, .slice nA l.length nc, .slice sA 0 sc, .slice lA 0 lc] := hl 15 (by first | (simp [Op.operands]; done) | simp [Op.operands, Call.operands]) (by rw [HS.out]; decide)
        have e16 : a.tmps[16]?.getD undef = .int .i64 (j : Int) := hl 16 (by first | (simp [Op.operands]; done) | simp [Op.operands, Call.operands]) (by rw [HS.out]; decide)
        clear hl
        go_simp
        refine ⟨gb_refl _ none, (HEL.out wq (gb_trans HGW.out hw (.inl rfl))).mono fun _ _ h => ?_⟩
        obtain ⟨⟨x9, h1, h2⟩, h3⟩ := h
        exact ⟨x9, h1, h3, h2⟩
      -- slot 18
      refine wpFacts_lit (.agg #[.int .i64 (-2), .slice xA 1 xc, .slice yA 0 yc, .slice zA 0 zc]) rfl ?_ ?_
      · intro a wq hw hl
        have e3 : a.tmps[3]?.getD undef = .pointer (some ⟨(w.heap.size + 1), 0, none⟩) := (hl 3 (by first | (simp [Op.operands]; done) | simp [Op.operands, Call.operands]) (by rw [HS.out]; decide)).trans A3.out
        have hbX := blk_keep HBXr.out (gb_trans HGW.out hw (.inl rfl)) (by simp)
        have c0 : wq.cell? ⟨(w.heap.size + 1), 0, none⟩ = some (.int .i64 (-2)) := by rw [blk_cell hbX]; rfl
        have c1 : wq.cell? ⟨(w.heap.size + 1), 1, none⟩ = some (.slice xA 1 xc) := by rw [blk_cell hbX]; rfl
        have c2 : wq.cell? ⟨(w.heap.size + 1), 2, none⟩ = some (.slice yA 0 yc) := by rw [blk_cell hbX]; rfl
        have c3 : wq.cell? ⟨(w.heap.size + 1), 3, none⟩ = some (.slice zA 0 zc) := by rw [blk_cell hbX]; rfl
        clear hbX
        clear hl
        go_simp
      refine HL.out _ (fun a' wz hc => ?_)
      have h17 : (ElF p) (a'.eval (.tmp 17)) wz := hc.fact 17 (by rw [HS.out]; decide)
      have e18 : a'.eval (.tmp 18) = .agg #[.int .i64 (-2), .slice xA 1 xc, .slice yA 0 yc, .slice zA 0 zc] := hc.fact 18 (by rw [HS.out]; decide)
      have hgwz := gb_trans HGW.out hc.grown (.inl rfl)
      have hfr := hc.frame [15, 16, 17, 18, 19] (by rw [HO.out]; kernel_rfl)
      rw [hfr]
      clear hfr hc
      rw [HA.out]
      clear HA HO HL HW HS HGW A2 A3 A6
      clear A O W L
      simp only [List.drop_succ_cons, List.drop_zero, List.foldl_cons, List.foldl_nil, Act.put, List.setIfInBounds_toArray, List.set_cons_succ, List.set_cons_zero]
      rw [e18]
      generalize a'.eval (.tmp 15) = x15
      generalize a'.eval (.tmp 16) = x16
      generalize a'.eval (.tmp 17) = x17 at h17 ⊢
      generalize a'.eval (.tmp 19) = x19
      clear e18
      clear a'
      obtain ⟨b1, o1, c1, e17, hc1, hcl⟩ := h17
      subst e17
      have HGZ := hide hgwz
      have HMZ := hide (HM.out wz (gb_trans HGA.out (gb_trans HGR.out hgwz (.inl rfl)) (.inl rfl)) b1 o1 c1 hc1 hcl)
      clear hgwz hc1 hcl
      by_cases hpx : p = x
      · have hs : Vl.same (.mk (-2) [p] [] []) (.mk (-2) [x] [] []) = true := (Vl.same_eq _ _).2 (by rw [hpx])
        rw [hs] at HMZ
        clear hs hpx
        go_wp2_with (go_at_call 36; refine HMZ.out.mono ?_; rintro e w5 ⟨rfl, hg5⟩; have HG5 := hide hg5; clear hg5)
        exact bodyPost_ret (v := .tuple #[.int .i64 (j : Int), .int .i64 0]) (by simp [results, Tryz.results16, go_sem]) rfl ⟨j, rfl, fun _ => HLT.out, gb_trans HGA.out (gb_trans HGR.out (gb_trans HGZ.out HG5.out (.inl rfl)) (.inl rfl)) (.inl rfl)⟩
      · have hs : Vl.same (.mk (-2) [p] [] []) (.mk (-2) [x] [] []) = false := Vl.same_ne (fun e => hpx (by injection e with _ e; injection e))
        rw [hs] at HMZ
        have HPX := hide hpx
        clear hs hpx
        go_wp2_with (go_at_call 36; refine HMZ.out.mono ?_; rintro e w5 ⟨rfl, hg5⟩; have HG5 := hide hg5; clear hg5)
        go_roundw
        case rel => exact ⟨j + 1, by go_num, HLT.out, fun i hi => (Nat.lt_succ_iff_lt_or_eq.1 hi).elim (HNO.out i) (fun e => by rw [e, ← HP.out]; exact HPX.out), gb_trans HGR.out (gb_trans HGZ.out HG5.out (.inl rfl)) (.inl rfl)⟩
        case measure => have := HLT.out; simp [intOf]; omega
    · have hlt1 : ¬ (j : Int) < (l.length : Int) := by omega
      have HNO := hide (show x ∉ l from fun hm => by
        obtain ⟨i, hi, he⟩ := List.getElem_of_mem hm
        exact hno i (by omega) (by rw [getD_lt8 hi, he]))
      have hbr := HBVr.out
      have a0 : wr.cell? ⟨w.heap.size, 0, none⟩ = some (.int .i64 2) := by rw [blk_cell hbr]; rfl
      have a1 : wr.cell? ⟨w.heap.size, 1, none⟩ = some (.slice nA l.length nc) := by rw [blk_cell hbr]; rfl
      have a2 : wr.cell? ⟨w.heap.size, 2, none⟩ = some (.slice sA 0 sc) := by rw [blk_cell hbr]; rfl
      have a3 : wr.cell? ⟨w.heap.size, 3, none⟩ = some (.slice lA 0 lc) := by rw [blk_cell hbr]; rfl
      clear hgr hno hlt hj hbr
      go_wp2_with (go_at_call 35; refine (HCN.out _ (gb_trans HGA.out HGR.out (.inl rfl))).mono ?_; rintro e w5 ⟨rfl, hg5⟩; have HG5 := hide hg5; clear hg5)
      exact bodyPost_ret (v := .tuple #[.int .i64 (l.length : Int), .int .i64 0]) (by simp [results, Tryz.results16, go_sem]) rfl ⟨l.length, rfl, fun hm => absurd hm HNO.out, gb_trans HGA.out (gb_trans HGR.out HG5.out (.inl rfl)) (.inl rfl)⟩
end Go.Proofs.YtgepejnooghjbaaGreat

namespace Go.Proofs.YtgepejnooghjbaaGreat
open Go.RowKit
attribute [local go_sem ↓] Go.wp_at_zero Go.wp_at_succ

/-- The sum of numbers, nulls left out. -/
def sumL : List Int → Int
  | [] => 0
  | n :: l => addN n + sumL l
theorem sumL_app (l m : List Int) : sumL (l ++ m) = sumL l + sumL m := by
  induction l with
  | nil => simp [sumL]
  | cons a r ih => simp [sumL, ih]; omega
def I64' (n : Int) : Prop := -9223372036854775808 ≤ n ∧ n ≤ 9223372036854775807
theorem addN_in {n : Int} (h : I64' n) : I64' (addN n) := by
  unfold addN I64' at *
  split <;> omega
theorem sumL_in (l : List Int) (h : ∀ n ∈ l, I64' n) : -((l.length : Int) * 9223372036854775808) ≤ sumL l ∧ sumL l ≤ (l.length : Int) * 9223372036854775807 := by
  induction l with
  | nil => simp [sumL]
  | cons a r ih =>
    have h1 := ih fun n hn => h n (by simp [hn])
    have h2 := addN_in (h a (by simp))
    unfold I64' at h2
    simp only [sumL, List.length_cons]
    omega
theorem put_two {w : World} {b : Nat} {x0 x1 : Value} {t : TypeId} (h : w.heap[b]? = some (.cells #[x0, x1] t (0, 0))) (y0 y1 : Value) :
    ((w.setCell ⟨b, 0, none⟩ y0).setCell ⟨b, 1, none⟩ y1).heap[b]? = some (.cells #[y0, y1] t (0, 0)) := by
  have h1 := blk_set h 0 y0
  rw [List.setIfInBounds_toArray] at h1
  have h2 := blk_set h1 1 y1
  rw [List.setIfInBounds_toArray] at h2
  exact h2
end Go.Proofs.YtgepejnooghjbaaGreat

namespace Go.Proofs.YtgepejnooghjbaaGreat
open Go.RowKit
attribute [local go_sem ↓] Go.wp_at_zero Go.wp_at_succ

set_option maxHeartbeats 4000000 in
set_option maxRecDepth 100000 in
theorem sumOf_any (l : List Int) (w : World) (B : Nat) (A : Option Addr) (c : Nat) (hl : l.length ≤ 1100000) (h64 : ∀ n ∈ l, I64' n) (hB : B ≤ w.heap.size) (hr : Rd w B A (i64s l)) :
    Calls Tryz.prog 96 #[.slice A l.length c] w fun e w' => e = .returned (totV (sumL l)) ∧ w.grownBy w' none := by
  obtain ⟨wa, hwa⟩ : ∃ wa, wa = (w.alloc (.cells #[.int .i64 0, .int .i64 0] 65)).alloc (.cells #[.int .i64 0, .int .i64 0] 65) := ⟨_, rfl⟩
  have hga : w.grownBy wa none := by rw [hwa]; exact gb_alloc (gb_alloc (gb_refl w none) _) _
  have hb0 : wa.heap[w.heap.size]? = some (.cells #[.int .i64 0, .int .i64 0] 65 (0, 0)) := by rw [hwa]; exact (Below.heap_alloc _ _ _ (by rw [World.size_alloc]; omega)).trans (heap_alloc_new w _)
  have hb1 : wa.heap[w.heap.size + 1]? = some (.cells #[.int .i64 0, .int .i64 0] 65 (0, 0)) := by rw [hwa]; have := heap_alloc_new (w.alloc (.cells #[.int .i64 0, .int .i64 0] 65)) (.cells #[.int .i64 0, .int .i64 0] 65); rwa [World.size_alloc] at this
  have HWE := hide hwa
  have HR := hide hr
  have HB := hide hB
  have HL := hide hl
  have H64 := hide h64
  have HGA := hide hga
  have HB0 := hide hb0
  have HB1 := hide hb1
  clear hwa hr hB hl h64 hga hb0 hb1
  go_enter Tryz.func96, Tryz.ntmps96
  go_wp2_with fail
  rw [← HWE.out]
  go_loopw [8] (fun i wr => ∃ j : Nat, i = .int .i64 (j : Int) ∧ j ≤ l.length ∧ wr.heap[w.heap.size]? = some (.cells #[.int .i64 0, .int .i64 0] 65 (0, 0)) ∧ wr.heap[w.heap.size + 1]? = some (.cells #[.int .i64 (sumL (l.take j) / 4294967296), .int .i64 (sumL (l.take j) % 4294967296)] 65 (0, 0)) ∧ w.grownBy wr none) (fun i _ => l.length - (intOf i).toNat)
  case atStart => exact ⟨0, rfl, Nat.zero_le _, HB0.out, HB1.out, HGA.out⟩
  case round =>
    obtain ⟨j, rfl, hj, hb0, hb1, hgr⟩ := hrel
    by_cases hlt : j < l.length
    · have hlt1 : (j : Int) < (l.length : Int) := by omega
      have h6 : IntKind.i64.wrap ((j : Int) + 1) = ((j + 1 : Nat) : Int) := by rw [IntKind.wrap_i64]; have := HL.out; omega
      obtain ⟨ad, hA, _, hcl0⟩ := HR.out.i64 hlt
      subst hA
      have hcl := cell_gb hcl0 hgr
      clear hcl0
      obtain ⟨n, hn⟩ : ∃ n, n = l[j] := ⟨_, rfl⟩
      rw [← hn] at hcl
      have hs1 := sumL_in (l.take (j + 1)) (fun n hn => H64.out n (List.mem_of_mem_take hn))
      have ht : l.take (j + 1) = l.take j ++ [n] := by rw [hn]; exact List.take_succ_eq_append_getElem hlt
      have hsum : sumL (l.take (j + 1)) = sumL (l.take j) + addN n := by rw [ht, sumL_app]; simp [sumL]
      have hlen : (l.take (j + 1)).length ≤ 1100000 := by have := HL.out; simp; omega
      have HPL := hide (fun w2 => plus_any (sumL (l.take j)) (addN n) (by rw [← hsum]; unfold Sum64; omega) w2)
      have HTO := hide (fun w2 => totalOf_any n w2)
      rw [← hsum] at HPL
      have HG := hide hgr
      have HLT := hide hlt
      have HC0 := hide hb0
      have HC1 := hide hb1
      clear hs1 ht hsum hlen hgr hlt hj hn hb0
      unfold totV at HPL HTO
      generalize hs2 : sumL (l.take (j + 1)) = s2 at *
      have HS2 := hide hs2
      clear hs2
      generalize sumL (l.take j) = s1 at *
      generalize addN n = an at *
      have z0 := blk_cell hb1 0
      have z1 := blk_cell hb1 1
      simp only [List.getElem?_toArray, List.getElem?_cons_zero, List.getElem?_cons_succ] at z0 z1
      clear hb1
      go_wp2_with fail
      go_region_law (first
        | (go_simp; go_at_call 43; refine (HTO.out _).mono ?_; rintro e w1 ⟨rfl, hg1⟩; have HG1 := hide (show wr.grownBy w1 none from ⟨hg1.os, hg1.tape, hg1.output, hg1.size, hg1.block⟩); have z0 := cell_gb z0 HG1.out; have z1 := cell_gb z1 HG1.out; clear hg1)
        | (go_simp; go_at_call 42; refine (HPL.out _).mono ?_; rintro e w2 ⟨rfl, hg2⟩; have HG2 := hide (show w1.grownBy w2 none from ⟨hg2.os, hg2.tape, hg2.output, hg2.size, hg2.block⟩); have hb2 := blk_keep HC1.out (gb_trans HG1.out HG2.out (.inl rfl)) (by simp); have HC2 := hide hb2; have z0 := cell_gb z0 HG2.out; have z1 := cell_gb z1 HG2.out; have y0 := blk_frozen hb2 0; have y1 := blk_frozen hb2 1; clear hg2 hb2))
      all_goals
        go_wp2_with fail
        go_roundw
        case rel =>
          refine ⟨j + 1, by go_num, by have := HLT.out; omega, ?_, by rw [HS2.out]; exact put_two HC2.out _ _, gb_setCell (gb_setCell (gb_trans HG.out (gb_trans HG1.out HG2.out (.inl rfl)) (.inl rfl)) (.inr (Nat.le_succ _)) _) (.inr (Nat.le_succ _)) _⟩
          rw [Below.heap_setCell _ ⟨w.heap.size + 1, 1, none⟩ _ _ (by simp), Below.heap_setCell _ ⟨w.heap.size + 1, 0, none⟩ _ _ (by simp)]
          exact blk_keep HC0.out (gb_trans HG1.out HG2.out (.inl rfl)) (by simp)
        case measure => have := HLT.out; simp [intOf]; omega
    · have hlt1 : ¬ (j : Int) < (l.length : Int) := by omega
      obtain rfl : j = l.length := by omega
      rw [List.take_length] at hb1
      have z0 := blk_cell hb1 0
      have z1 := blk_cell hb1 1
      simp only [List.getElem?_toArray, List.getElem?_cons_zero, List.getElem?_cons_succ] at z0 z1
      have x0 := blk_cell hb0 0
      have x1 := blk_cell hb0 1
      simp only [List.getElem?_toArray, List.getElem?_cons_zero, List.getElem?_cons_succ] at x0 x1
      have y0 := blk_frozen hb0 0
      have y1 := blk_frozen hb0 1
      have HG := hide hgr
      have HC0 := hide hb0
      clear hgr hlt hj hb0 hb1
      go_wp2_with fail
      have m0 := blk_cell (put_two HC0.out (.int .i64 (sumL l / 4294967296)) (.int .i64 (sumL l % 4294967296))) 0
      have m1 := blk_cell (put_two HC0.out (.int .i64 (sumL l / 4294967296)) (.int .i64 (sumL l % 4294967296))) 1
      simp only [List.getElem?_toArray, List.getElem?_cons_zero, List.getElem?_cons_succ] at m0 m1
      exact bodyPost_ret (v := .agg #[.int .i64 (sumL l / 4294967296), .int .i64 (sumL l % 4294967296)]) (by simp [results, Tryz.results96, go_sem, m0, m1]) rfl ⟨rfl, gb_setCell (gb_setCell HG.out (.inr (Nat.le_refl _)) _) (.inr (Nat.le_refl _)) _⟩
end Go.Proofs.YtgepejnooghjbaaGreat
